/-
  Proved here: each number up to the greatest is by lex a word whose number it is; each greater one is wrong. No condition.
-/
import Derived.Test.YticifolljhplmaaKp
import Derived.Test.YticifolljhplmaaKq
import Derived.Lib.ConvBytes
namespace Go.Proofs.Yticifolljhplmaa.lexNumbers
open Go.ChangeShapes Go.WideShapes Go.ChangeAt Go.RowKit
set_option linter.unusedVariables false
set_option linter.unusedSimpArgs false
theorem dec_len : ∀ (k u : Nat), u < 10 ^ (k + 1) → (decD u).length ≤ k + 1 := by
  intro k
  induction k with
  | zero => intro u h; rw [dec_lt u (by omega)]; exact Nat.le_refl _
  | succ k ih =>
    intro u h
    by_cases h1 : u < 10
    · rw [dec_lt u h1]; simp
    · rw [dec_ge u h1, List.length_append]
      have := ih (u / 10) (by rw [Nat.pow_succ] at h; omega)
      simp only [List.length_singleton]
      omega
theorem one_byte (w : World) (d : UInt8) (x : Int) (hx : (d.toNat : Int) = x) : (convert 36 9 (.slice (some ⟨w.heap.size, 0, none⟩) 1 1)).run Try.prog (w.alloc (.cells #[.int .u8 x] 5)) = .ok (.string ⟨#[d]⟩) (w.alloc (.cells #[.int .u8 x] 5)) := by
  refine run_convert_bytes_back (w.alloc (.cells #[.int .u8 x] 5)) _ _ 5 ⟨w.heap.size, 0, none⟩ 1 [d] Try.underlying36 Try.underlying5 Try.underlying9 fun j hj => ?_
  obtain rfl : j = 0 := by simp at hj; exact hj
  have h : (w.alloc (.cells #[.int .u8 x] 5)).heap[w.heap.size]? = some (.cells #[.int .u8 x] 5 (0, 0)) := new_blk w _ rfl
  rw [show (⟨w.heap.size, 0, none⟩ : Addr).add 0 = ⟨w.heap.size, 0, none⟩ by simp [Addr.add], cell_of_row _ _ 0 _ _ _ h, ← hx]
  rfl
theorem bw_facts (w : World) (T : Bs) : SrcB (Lib.bytesWorld w 5 ⟨T.toArray⟩) (some ⟨w.heap.size, 0, none⟩) T ∧ Nb w (Lib.bytesWorld w 5 ⟨T.toArray⟩) ∧ T.length ≤ grownCap w T.length 0 5 := by
  refine ⟨fun _ => ⟨_, rfl, fun j c hc => ?_⟩, ⟨?_, ?_, ?_, ?_, ?_⟩, grownCap_ge _ _ _ _⟩
  · have hj : j < T.length := by
      by_cases h : j < T.length
      · exact h
      · rw [List.getElem?_eq_none (by omega)] at hc; cases hc
    rw [show (⟨w.heap.size, 0, none⟩ : Addr).add j = ⟨w.heap.size, j, none⟩ by simp [Addr.add] <;> omega, Lib.bytesWorld_cell w 5 ⟨T.toArray⟩ j hj]
    simp [hc, bI]
  · unfold Lib.bytesWorld World.freeze; split <;> rfl
  · unfold Lib.bytesWorld World.freeze; split <;> rfl
  · unfold Lib.bytesWorld World.freeze; split <;> rfl
  · rw [Lib.bytesWorld_size]; omega
  · intro k hk; exact Lib.bytesWorld_at_old w 5 _ k hk
theorem num_TA (N : Nat) (h : (decD N).length ≤ 19) : TA (decD N) = if N ≤ 2305843009213693951 then ([(2, 0, decD N, (N : Int)), endT (decD N)], 0, true) else ([], 0, false) := by
  unfold TA
  rw [if_neg (by omega), tt_num]
  by_cases h : N ≤ 2305843009213693951
  · rw [if_pos h, if_pos h]; rfl
  · rw [if_neg h, if_neg h]
set_option maxRecDepth 100000 in
set_option maxHeartbeats 2000000 in
theorem walk (n : Int) (hn : -9223372036854775808 ≤ n ∧ n < 9223372036854775808) (w : World) :
    Calls Try.prog 8 #[.int .i64 n] w fun e w' => e = .returned (.bool true) ∧ Nb w w' := by
  by_cases h1 : n < 0
  · go_enter Try.func8, Try.ntmps8
    go_wp2_with (go_at_call 17; refine (lives_any _).mono ?_; rintro e w1 ⟨rfl, n1⟩)
    go_ret
    exact ⟨rfl, n1⟩
  · obtain ⟨N, rfl⟩ : ∃ N : Nat, n = N := ⟨n.toNat, by omega⟩
    have hN : N < 9223372036854775808 := by omega
    have hL := dec_len 18 N (by omega)
    clear hn
    go_enter Try.func8, Try.ntmps8
    go_wp2_with fail
    go_loopw [3, 4] (fun s k wr => ∃ (u : Nat) (tl : Bs), u ≤ N ∧ k = .int .i64 u ∧ s = .string ⟨tl.toArray⟩ ∧ Hid (decD u ++ tl = decD N) ∧ Nb w wr) (fun _ k _ => (intOf k).toNat)
    case atStart => exact ⟨N, [], Nat.le_refl _, rfl, rfl, Lib.hid (List.append_nil _), Nb.refl _⟩
    case round =>
      obtain ⟨u, tl, hu, rfl, rfl, hd, hw⟩ := hrel
      have htl : tl.length ≤ 19 := by have := congrArg List.length hd.out; rw [List.length_append] at this; omega
      obtain ⟨d, hdd⟩ : ∃ d, UInt8.ofNat (48 + u % 10) = d := ⟨_, rfl⟩
      have hs := fun w => one_byte w d (48 + (u : Int) % 10) (by
        rw [← hdd, show (UInt8.ofNat (48 + u % 10)).toNat = 48 + u % 10 by simp; omega]; omega)
      by_cases h10 : (u : Int) < 10
      · have hT : d :: tl = decD N := by
          rw [← hdd, ← hd.out, dec_lt u (by omega), show u % 10 = u by omega]; rfl
        have hT := Lib.hid hT
        clear hd hdd
        go_upto_region 8 with (fail)
        have hstr : (⟨#[d]⟩ : ByteArray) ++ ⟨tl.toArray⟩ = ⟨(decD N).toArray⟩ := by rw [← hT.out]; simp [ByteArray.mk_append_mk]
        rw [hstr]
        obtain ⟨W2, hW2⟩ : ∃ W2, wr.alloc (Obj.cells #[Value.int .u8 (48 + (u : Int) % 10)] 5) = W2 := ⟨_, rfl⟩
        have n2 : Nb w W2 := by rw [← hW2]; exact hw.alloc _
        rw [hW2]
        clear hW2 hs htl hT hstr hw h10 hu
        have hcv : (convert 9 36 (.string ⟨(decD N).toArray⟩)).run Try.prog W2 = .ok (.slice (some ⟨W2.heap.size, 0, none⟩) (decD N).length (grownCap W2 (decD N).length 0 5)) (Lib.bytesWorld W2 5 ⟨(decD N).toArray⟩) := Lib.run_convert_string_bytes (P := Try.prog) W2 9 36 5 ⟨(decD N).toArray⟩ Try.underlying9 Try.underlying36 Try.underlying5
        obtain ⟨b1, b2, b3⟩ := bw_facts W2 (decD N)
        have key := Lib.hid (tokens_any (some ⟨W2.heap.size, 0, none⟩) (grownCap W2 (decD N).length 0 5) (decD N) b3 (by omega) _ b1)
        have n3 := n2.trans b2
        have hnum := Lib.hid (num_TA N hL)
        generalize Lib.bytesWorld W2 5 ⟨(decD N).toArray⟩ = W3 at hcv key n3 b1
        clear b1 b2 b3 hL n2
        generalize grownCap W2 (decD N).length 0 5 = cap at hcv key
        generalize decD N = T at hcv key hnum ⊢
        by_cases hm : N ≤ 2305843009213693951
        · have hnum := Lib.hid (hnum.out.trans (if_pos hm))
          have hm2 : ¬ (2305843009213693951 : Int) < (N : Int) := by omega
          go_upto_region 9 with (go_at_call 18; refine (key.out).mono ?_; rintro e w4 ⟨v, rfl, n4, ho⟩)
          rw [hnum.out] at ho ⊢
          rcases ho.2 with ⟨-, h0⟩ | ⟨g, cap2, cur, rfl, -⟩
          · cases h0
          have c3 : w4.cell? ⟨g, 3, none⟩ = some (.int .i64 N) := World.ownsRow.cellAt ho 3 (show 3 < 2 * 4 by omega)
          have c2 : w4.cell? ⟨g, 2, none⟩ = some (.string ⟨T.toArray⟩) := World.ownsRow.cellAt ho 2 (show 2 < 2 * 4 by omega)
          clear ho key hcv
          have n5 := n3.trans n4
          go_wp2_with (go_at_call 17; refine (lives_any _).mono ?_; rintro e w6 ⟨rfl, n6⟩)
          go_ret
          exact ⟨rfl, n5.trans n6⟩
        · have hnum := Lib.hid (hnum.out.trans (if_neg hm))
          have hm2 : (2305843009213693951 : Int) < (N : Int) := by omega
          go_upto_region 9 with (go_at_call 18; refine (key.out).mono ?_; rintro e w4 ⟨v, rfl, n4, ho⟩)
          rw [hnum.out]
          clear ho key hcv
          have n5 := n3.trans n4
          go_wp2_with (go_at_call 17; refine (lives_any _).mono ?_; rintro e w6 ⟨rfl, n6⟩)
          go_ret
          exact ⟨rfl, n5.trans n6⟩
      · have hT : decD (u / 10) ++ (d :: tl) = decD N := by
          rw [← hdd, ← hd.out, dec_ge u (by omega), List.append_assoc]; rfl
        have hT := Lib.hid hT
        clear hd hdd
        go_wp2_with fail
        exact ⟨⟨u / 10, d :: tl, by omega, (by first | rfl | trivial), by simp [ByteArray.mk_append_mk], hT, hw.alloc _⟩, by simp [intOf] <;> omega⟩
/-! The row's step. -/
set_option maxRecDepth 100000 in
set_option maxHeartbeats 1000000 in
theorem lifted (os : Os) (started : os.Started) (H : Type) (enc : TypeId × Value → H) :
    ReturnsInHanded {} Try.checked os 8 .any (Rows.lexNumbersSpec.pre6 enc Try.prog Try.f8 Rows.lexNumbersRow.domain false)
      (Rows.lexNumbersSpec.post enc Try.prog Try.f8 false true false false) := by
  refine returnsInHanded_of_change (C := Try.checked) own started (by kernel_rfl) Try.func8
    (ChangeSpec.witness6 (enc := enc) (C := Try.checked) false ⟨#[], #[.int .i64 0], []⟩ 8 (by kernel_rfl) (by kernel_rfl) (by kernel_rfl) (by kernel_rfl)) ?_
  intro W base args ds gs before hval0 hW _ _
  have hval : ∀ (j : Nat) t v, Try.f8.params[j]? = some t → args[j]? = some v → Value.okWide Try.prog W .any base t v := hval0
  have hW' := hW
  obtain ⟨p, q, hA0, hV, rfl, hfz, hnd⟩ := hW
  have hA1 : DataW.TrodAll enc Try.prog W 0 (fun _ => true) true Try.f8.params.toList args.toList ds p := hA0
  have hA := hA1
  rw [Try.params8] at hA hval
  obtain ⟨v0, vs0, d0, ds0, p0, q0, hargs0, rfl, -, h0, r0⟩ := trodAll_cons hA
  obtain ⟨rfl, rfl, -⟩ := trodAll_nil r0
  obtain rfl : args = #[v0] := by cases args; simp_all
  obtain ⟨rfl, rfl⟩ := trodVars_none hV
  obtain ⟨n0, rfl, -, -, w0⟩ := open_int Try.underlying3 (hval 0 3 v0 rfl rfl) h0
  clear hval0
  simp only [List.append_nil] at hW'
  refine (walk n0 (i64_of w0) W ).mono fun e W' ⟨he, hg⟩ => ?_
  subst he
  exact ⟨_, rfl, post_of_nb (pa := p) (pv := []) hW' (fun _ _ _ => (trodAll_cons_mk (shut_bool Try.underlying4 _) trodAll_mk0))
    (fun sp hsp => args_stay (by kernel_rfl) hg hA1 (fun t ht => by
      have h0 : (Try.f8.params.toList.all fun t => Try.prog.readableRec t && decide (t < Try.prog.types.size)) = true := by kernel_rfl
      have h1 := List.all_eq_true.1 h0 t ht
      rw [Bool.and_eq_true, decide_eq_true_eq] at h1
      exact h1) (fun x hx => hW'.lt x hx) hsp)
    (fun _ _ => rfl) (by simp) hg (ok_one (by kernel_rfl) rfl (okWide_bool_mk Try.underlying4 _))⟩
theorem over : Rows.lexNumbersRow.holds Try.pinned (OpenSpec.ofChange Rows.lexNumbersSpec) :=
  OpenClaim.holds_of_wide 8 Try.f8 rfl rfl rfl rfl rfl rfl rfl ⟨rfl, rfl, rfl, rfl, rfl⟩ rfl rfl rfl rfl rfl (by kernel_rfl) Try.func8 (by kernel_rfl)
    (of_decide_eq_true (by kernel_rfl)) (by unfold Func.isWrapper; first | (rw [if_pos (by decide +kernel)]; kernel_rfl) | (rw [if_neg (by decide +kernel)]; exact ⟨rfl, rfl⟩))
    (fun os started H enc _ => lifted os started H enc)
/-- The statement. -/
theorem proved : Rows.LexNumbersSaid := over
#print axioms proved
end Go.Proofs.Yticifolljhplmaa.lexNumbers
