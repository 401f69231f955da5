/-
  Proved here: the walk of the statement on one fence more: some operations. Conditions: as stated.
-/
import Derived.Test.YtpnafbcekihoeaaZf
namespace Go.Proofs.Ytpnafbcekihoeaa.orderMore
open Go.ChangeShapes Go.WideShapes Go.ChangeAt Go.RowKit
set_option linter.unusedVariables false
set_option linter.unusedSimpArgs false
set_option maxRecDepth 100000 in
set_option maxHeartbeats 20000000 in
theorem main (b o n c : Nat) (L : List OpD) (at_ pred succ : Int) (w : World) (hL : Hid (OpsR w (.slice (some ⟨b, o, none⟩) n c) L)) (hn' : Hid (L.length = n)) (n0 : 0 < n) (l60 : n ≤ 60) (hcap : n ≤ c)
    (hslh : Hid (∀ m ∈ L, ShortOp m)) (ha : InR at_)
    (H1 : Hid (∀ w1, Nb w w1 → Calls Try.prog 6 #[.slice (some ⟨b, o, none⟩) n c] w1 fun e w' => e = .returned (.bool true) ∧ Nb w1 w')) :
    Calls Try.prog 3 #[.slice (some ⟨b, o, none⟩) n c, .int .i64 at_, .int .i64 pred, .int .i64 succ] w fun e w' => e = .returned (.bool true) ∧ Nb w w' := by
  obtain ⟨i0, hi0, hz0, hz1, hz2⟩ := info_parts info_op
  have r0 : Nb w w := Nb.refl w
  obtain ⟨X, hX⟩ : ∃ X, IntKind.u64.wrap at_ = X := ⟨_, rfl⟩
  have hXb : 0 ≤ X ∧ X < 18446744073709551616 := by rw [← hX, IntKind.wrap_u64]; omega
  obtain ⟨k, hk⟩ : ∃ k : Nat, X % ((n : Int) + 1) = (k : Int) := ⟨(X % ((n : Int) + 1)).toNat, by have := Int.emod_nonneg X (show ((n : Int) + 1) ≠ 0 by omega); omega⟩
  have hkn : k ≤ n := by have := Int.emod_lt_of_pos X (show 0 < ((n : Int) + 1) by omega); omega
  obtain ⟨hX0, hX1⟩ := hXb
  have hmx : (200 : Nat) ≤ maxLen := by decide
  go_enter Try.func3, Try.ntmps3
  go_upto_region 4 with (first
    | (go_at_call 6; (with_reducible refine (H1.out _ r0).mono ?_); rintro e w1 ⟨rfl, k1⟩))
  clear H1 hX0 hX1 hk hX
  obtain ⟨cF, hF⟩ : ∃ c : Array Value, (fenceD pred succ).cells.toArray = c := ⟨_, rfl⟩
  have fF := Lib.hid (show Try.prog.built 29 [(0, .int .i64 (-1)), (3, .bool true), (8, .int .i64 pred), (9, .int .i64 succ), (13, .int .i64 (-1))] = some cF by rw [← hF]; kernel_rfl)
  have sF : cF.size = 17 := by rw [← hF]; rfl
  have oF := Lib.hid (show cF.all (·.oneCell') = true by rw [← hF]; kernel_rfl)
  have hi : (Try.prog.info? 29).map (·.size) = some 17 := by kernel_rfl
  have iF := Lib.hid (hi.trans (congrArg some sF.symm))
  have zF := Lib.hid (show (17 : Nat) = cF.size from sF.symm)
  have hF' := Lib.hid hF
  have hbs := Lib.hid (fun W => bs1 sF W)
  have sFh := Lib.hid sF
  clear hF sF hi
  go_upto_region 5 with (first
    | (refine wpList_built rfl 29 _ rfl [(0, .int .i64 (-1)), (3, .bool true), (8, .int .i64 pred), (9, .int .i64 succ), (13, .int .i64 (-1))] (by kernel_rfl) cF fF.out ?_)
    | (refine wpList_store_new rfl 29 (.tmp 10) (.tmp 35) rfl _ cF _ rfl rfl iF.out zF.out oF.out ?_))
  obtain ⟨W2, hW⟩ : ∃ W2, w1.alloc (.cells cF 29) = W2 := ⟨_, rfl⟩
  have n2 : Nb w W2 := by rw [← hW]; exact k1.alloc _
  have bF : W2.heap[w1.heap.size]? = some (.cells cF 29 (0, 0)) := by rw [← hW]; exact new_blk _ _ rfl
  rw [hW]
  clear hW fF
  obtain ⟨v0, v1, v2, v3, v4, v5, v6, v7, v8, v9, v10, v11, v12, v13, v14, v15, v16, hcF⟩ := arr17 sFh.out
  subst hcF
  obtain ⟨hb, hx⟩ : b < w.heap.size ∧ ∀ (i : Nat) (d : OpD), L[i]? = some d → OpAt w b (o + i * 17) d := by
    rcases hL.out with ⟨-, e⟩ | ⟨b', o', c', e, hb, hc, hx⟩
    · have := hn'.out; rw [e] at this; simp at this; omega
    · injection e with e1 e2 e3
      cases e1
      exact ⟨hb, hx⟩
  have hSA := Lib.hid (show ∀ W, Nb W2 W → SrcR W (.slice (some ⟨b, o, none⟩) k c) k 17 ((L.take k).flatMap OpD.cells) from fun W kW => src_of (by rw [List.length_take, hn'.out]; omega) (fun i d hd => by
    rw [List.getElem?_take] at hd
    split at hd
    · exact (hx i d hd).nb (n2.trans kW)
    · cases hd))
  have hSB := Lib.hid (show ∀ W, Nb W2 W → SrcR W (.slice (some ⟨b, o + k * 17, none⟩) (n - k) (c - k)) (n - k) 17 ((L.drop k).flatMap OpD.cells) from fun W kW => src_of (by rw [List.length_drop, hn'.out]) (fun i d hd => by
    rw [List.getElem?_drop] at hd
    rw [show o + k * 17 + i * 17 = o + (k + i) * 17 by omega]
    exact (hx _ d hd).nb (n2.trans kW)))
  have hiO := Lib.hid (show (Try.prog.info? 29).map (·.size) = some 17 by kernel_rfl)
  have rF := Lib.hid (show W2.rangeAt w1.heap.size 0 [v0, v1, v2, v3, v4, v5, v6, v7, v8, v9, v10, v11, v12, v13, v14, v15, v16] from rng17 bF)
  have hon := Lib.hid (show ∀ u ∈ (#[v0, v1, v2, v3, v4, v5, v6, v7, v8, v9, v10, v11, v12, v13, v14, v15, v16]).toList, u.oneCell' = true from fun u hu => Array.all_eq_true_iff_forall_mem.1 oF.out u (by simpa using hu))
  have hFl := Lib.hid (show (fenceD pred succ).cells = (#[v0, v1, v2, v3, v4, v5, v6, v7, v8, v9, v10, v11, v12, v13, v14, v15, v16]).toList by rw [← hF'.out])
  have hhas := Lib.hid (show ∀ W, Nb w W → ∀ d ∈ L.take k ++ fenceD pred succ :: L.drop k, d.Has W by
    intro W kW d hd
    simp only [List.mem_append, List.mem_cons] at hd
    rcases hd with hd | rfl | hd
    · exact (hL.out.has d (List.mem_of_mem_take hd)).nb kW
    · exact fence_ok _ _ _
    · exact (hL.out.has d (List.mem_of_mem_drop hd)).nb kW)
  have hxh := Lib.hid hx
  clear hx hb
  have q1 : (k : Int) ≤ (n : Int) := by omega
  have q2 : (n : Int) ≤ (c : Int) := by omega
  have q3 : (k : Int) ≤ (c : Int) := by omega
  have hz2' := n2.size
  simp only [Act.put]
  go_cut [11] (fun s11 wx => wx.ownsRow W2.heap.size 29 17 s11 (k + 1 + (n - k)) ((L.take k ++ fenceD pred succ :: L.drop k).flatMap OpD.cells) ∧ Nb W2 wx)
  case first =>
    by_cases hck : c = k
    · obtain rfl : k = n := by omega
      obtain rfl : k = c := hck.symm
      have hdr := Lib.hid (show L.drop k = [] from List.drop_of_length_le (by rw [hn'.out]; omega))
      refine wp_region_held_drew (S := fun w' => Nb W2 w') (by kernel_rfl) (Nb.refl W2).drew1 (fun hHeld => ?_)
      change wpAnyH _ _ _ _ _ 13 (List.toArray [false, false, false, false, false, false, false, false, false, false, false, false, false]) _ _
      refine take_l (i := 1) (v := .slice (some ⟨b, o, none⟩) k k) rfl (by kernel_rfl) (by kernel_rfl) (by kernel_rfl) (fun _ _ _ h => h) (.inl ⟨by rfl, by intro w' hw; go_simp⟩) hHeld ?_
      simp only [Act.put, List.setIfInBounds_toArray, List.set_cons_zero, List.set_cons_succ]
      refine take_l (i := 2) (v := .int .i64 (k : Int)) rfl (by kernel_rfl) (by kernel_rfl) (by kernel_rfl) (fun _ _ _ h => h) (.inl ⟨by rfl, by intro w' hw; go_simp⟩) hHeld ?_
      simp only [Act.put, List.setIfInBounds_toArray, List.set_cons_zero, List.set_cons_succ]
      refine take_l (i := 3) (v := .slice (some ⟨b, o, none⟩) k k) rfl (by kernel_rfl) (by kernel_rfl) (by kernel_rfl) (fun _ _ _ h => h) (.inl ⟨by rfl, by intro w' hw; go_simp⟩) hHeld ?_
      simp only [Act.put, List.setIfInBounds_toArray, List.set_cons_zero, List.set_cons_succ]
      refine take_l (i := 5) (v := .agg ([v0, v1, v2, v3, v4, v5, v6, v7, v8, v9, v10, v11, v12, v13, v14, v15, v16] : List Value).toArray) rfl (by kernel_rfl) (by kernel_rfl) (by kernel_rfl) (fun _ _ _ h => h) (yieldsIf_load_mid (by rfl) 29 (.tmp 10) rfl w1.heap.size 0 rfl [v0, v1, v2, v3, v4, v5, v6, v7, v8, v9, v10, v11, v12, v13, v14, v15, v16] _ (fun w' hw => hw.range rF.out) Try.underlying29 rfl hiO.out) hHeld ?_
      simp only [Act.put, List.setIfInBounds_toArray, List.set_cons_zero, List.set_cons_succ]
      refine take_l (i := 8) (v := .slice (some ⟨b, o, none⟩) k k) rfl (by kernel_rfl) (by kernel_rfl) (by kernel_rfl) (fun _ _ _ h => h) (.inl ⟨by rfl, by intro w' hw; go_simp⟩) hHeld ?_
      simp only [Act.put, List.setIfInBounds_toArray, List.set_cons_zero, List.set_cons_succ]
      refine take_l (i := 9) (v := .int .i64 (k : Int)) rfl (by kernel_rfl) (by kernel_rfl) (by kernel_rfl) (fun _ _ _ h => h) (.inl ⟨by rfl, by intro w' hw; go_simp⟩) hHeld ?_
      simp only [Act.put, List.setIfInBounds_toArray, List.set_cons_zero, List.set_cons_succ]
      refine take_l (i := 10) (v := .slice (some ⟨b, o, none⟩) 0 0) rfl (by kernel_rfl) (by kernel_rfl) (by kernel_rfl) (fun _ _ _ h => h) (.inl ⟨by rfl, by intro w' hw; go_simp⟩) hHeld ?_
      simp only [Act.put, List.setIfInBounds_toArray, List.set_cons_zero, List.set_cons_succ]
      generalize W2.drew = Wd at hHeld ⊢
      have hb0 := hHeld.size
      refine wpAnyH_ready (rs := [0, 6]) (by kernel_rfl) (by simp) (cons_l rfl (by rfl) (fun K hK => ?_) (cons_l rfl (by rfl) (fun K hK => ?_) .nil))
      · go_simp
        refine hK.out _ _ (hHeld.alloc _) (fun hHeld => ?_)
        clear hK K
        simp only [Act.put, List.setIfInBounds_toArray, List.set_cons_zero, List.set_cons_succ]
        have o0 : (Wd.alloc (.cells #[] 29)).ownsRow W2.heap.size 29 17 (.slice (some ⟨Wd.heap.size, 0, none⟩) 0 0) 0 [] := own0 (new_blk _ _ rfl) (Nat.le_trans hb0 (by omega))
        have ltWe : Wd.heap.size < (Wd.alloc (.cells #[] 29)).heap.size := by simp
        generalize Wd.alloc (.cells #[] 29) = We at o0 ltWe hHeld ⊢
        refine wpAnyH_ready (rs := [4, 6]) (by kernel_rfl) (by simp) (cons_l rfl (by rfl) (fun K hK => ?_) (cons_l rfl (by rfl) (fun K hK => ?_) .nil))
        · refine wp_app (.tmp 36) (.tmp 39) 22 rfl W2.heap.size 29 i0 _ 17 176 Try.underlying22 hi0 hz0 hz1 hz2 rfl (by decide) _ 0 [] rfl o0 _ k ((L.take k).flatMap OpD.cells) rfl (hSA.out _ hHeld) (by omega) (by omega) hHeld.size ?_
          intro u1 Wf o1 g1
          have m1 : Nb W2 Wf := hHeld.grown g1 (own_ge o0)
          refine hK.out _ _ m1 (fun hHeld => ?_)
          clear hK K
          simp only [Act.put, List.setIfInBounds_toArray, List.set_cons_zero, List.set_cons_succ]
          refine wpAnyH_ready (rs := [6]) (by kernel_rfl) (by simp) (cons_l rfl (by rfl) (fun K hK => ?_) .nil)
          refine wp_bs 22 1 #[(0, (.tmp 41))] rfl #[(0, .agg #[v0, v1, v2, v3, v4, v5, v6, v7, v8, v9, v10, v11, v12, v13, v14, v15, v16])] (by kernel_rfl) _ (hbs.out _) ?_
          refine hK.out _ _ (hHeld.alloc _) (fun hHeld => ?_)
          clear hK K
          simp only [Act.put, List.setIfInBounds_toArray, List.set_cons_zero, List.set_cons_succ]
          have q0 : (Wf.alloc (.cells #[v0, v1, v2, v3, v4, v5, v6, v7, v8, v9, v10, v11, v12, v13, v14, v15, v16] 29)).heap[Wf.heap.size]? = some (.cells #[v0, v1, v2, v3, v4, v5, v6, v7, v8, v9, v10, v11, v12, v13, v14, v15, v16] 29 (0, 0)) := new_blk _ _ rfl
          replace o1 := o1.alloc (.cells #[v0, v1, v2, v3, v4, v5, v6, v7, v8, v9, v10, v11, v12, v13, v14, v15, v16] 29)
          generalize Wf.alloc (.cells #[v0, v1, v2, v3, v4, v5, v6, v7, v8, v9, v10, v11, v12, v13, v14, v15, v16] 29) = Wg at q0 o1 hHeld ⊢
          refine wpAnyH_ready (rs := [7]) (by kernel_rfl) (by simp) (cons_l rfl (by rfl) (fun K hK => ?_) .nil)
          refine wp_app (.tmp 40) (.tmp 42) 22 rfl W2.heap.size 29 i0 _ 17 176 Try.underlying22 hi0 hz0 hz1 hz2 rfl (by decide) _ (0 + k) ([] ++ ((L.take k).flatMap OpD.cells)) rfl o1 _ 1 (#[v0, v1, v2, v3, v4, v5, v6, v7, v8, v9, v10, v11, v12, v13, v14, v15, v16]).toList rfl (src_one q0 rfl hon.out) (by omega) (by omega) hHeld.size ?_
          intro u2 Wy o2 g2
          have m2 : Nb W2 Wy := hHeld.grown g2 (own_ge o1)
          refine hK.out _ _ m2 (fun hHeld => ?_)
          clear hK K
          simp only [Act.put, List.setIfInBounds_toArray, List.set_cons_zero, List.set_cons_succ]
          refine wpAnyH_ready (rs := [11]) (by kernel_rfl) (by simp) (cons_l rfl (by rfl) (fun K hK => ?_) .nil)
          refine wp_app (.tmp 43) (.tmp 46) 22 rfl W2.heap.size 29 i0 _ 17 176 Try.underlying22 hi0 hz0 hz1 hz2 rfl (by decide) _ (0 + k + 1) ([] ++ ((L.take k).flatMap OpD.cells) ++ (#[v0, v1, v2, v3, v4, v5, v6, v7, v8, v9, v10, v11, v12, v13, v14, v15, v16]).toList) rfl o2 _ 0 [] rfl (src_zero _ _ _) (by omega) (by omega) hHeld.size ?_
          intro u3 Wz o3 g3
          have m3 : Nb W2 Wz := hHeld.grown g3 (own_ge o2)
          refine hK.out _ _ m3 (fun hHeld => ?_)
          clear hK K
          simp only [Act.put, List.setIfInBounds_toArray, List.set_cons_zero, List.set_cons_succ]
          refine take_l (i := 12) (v := u3) rfl (by kernel_rfl) (by kernel_rfl) (by kernel_rfl) (fun _ _ _ h => h) (.inl ⟨by rfl, by intro w' hw; go_simp⟩) hHeld ?_
          simp only [Act.put, List.setIfInBounds_toArray, List.set_cons_zero, List.set_cons_succ]
          refine wpAnyH_done (by kernel_rfl) ?_ _
          go_wp2_with fail
          go_meet
          exact ⟨own_to o3 (by omega) (by rw [hdr.out]; simp [List.flatMap_append, List.flatMap_cons, hFl.out]), m3⟩
        · refine wp_bs 22 1 #[(0, (.tmp 41))] rfl #[(0, .agg #[v0, v1, v2, v3, v4, v5, v6, v7, v8, v9, v10, v11, v12, v13, v14, v15, v16])] (by kernel_rfl) _ (hbs.out _) ?_
          refine hK.out _ _ (hHeld.alloc _) (fun hHeld => ?_)
          clear hK K
          simp only [Act.put, List.setIfInBounds_toArray, List.set_cons_zero, List.set_cons_succ]
          have q0 : (We.alloc (.cells #[v0, v1, v2, v3, v4, v5, v6, v7, v8, v9, v10, v11, v12, v13, v14, v15, v16] 29)).heap[We.heap.size]? = some (.cells #[v0, v1, v2, v3, v4, v5, v6, v7, v8, v9, v10, v11, v12, v13, v14, v15, v16] 29 (0, 0)) := new_blk _ _ rfl
          replace o0 := o0.alloc (.cells #[v0, v1, v2, v3, v4, v5, v6, v7, v8, v9, v10, v11, v12, v13, v14, v15, v16] 29)
          generalize We.alloc (.cells #[v0, v1, v2, v3, v4, v5, v6, v7, v8, v9, v10, v11, v12, v13, v14, v15, v16] 29) = Wg at q0 o0 hHeld ⊢
          refine wpAnyH_ready (rs := [4]) (by kernel_rfl) (by simp) (cons_l rfl (by rfl) (fun K hK => ?_) .nil)
          refine wp_app (.tmp 36) (.tmp 39) 22 rfl W2.heap.size 29 i0 _ 17 176 Try.underlying22 hi0 hz0 hz1 hz2 rfl (by decide) _ 0 [] rfl o0 _ k ((L.take k).flatMap OpD.cells) rfl (hSA.out _ hHeld) (by omega) (by omega) hHeld.size ?_
          intro u1 Wf o1 g1
          have m1 : Nb W2 Wf := hHeld.grown g1 (own_ge o0)
          refine hK.out _ _ m1 (fun hHeld => ?_)
          clear hK K
          simp only [Act.put, List.setIfInBounds_toArray, List.set_cons_zero, List.set_cons_succ]
          replace q0 := grown_blk g1 q0 (fun e => absurd (show Wd.heap.size = We.heap.size from Option.some.inj e) (by omega))
          refine wpAnyH_ready (rs := [7]) (by kernel_rfl) (by simp) (cons_l rfl (by rfl) (fun K hK => ?_) .nil)
          refine wp_app (.tmp 40) (.tmp 42) 22 rfl W2.heap.size 29 i0 _ 17 176 Try.underlying22 hi0 hz0 hz1 hz2 rfl (by decide) _ (0 + k) ([] ++ ((L.take k).flatMap OpD.cells)) rfl o1 _ 1 (#[v0, v1, v2, v3, v4, v5, v6, v7, v8, v9, v10, v11, v12, v13, v14, v15, v16]).toList rfl (src_one q0 rfl hon.out) (by omega) (by omega) hHeld.size ?_
          intro u2 Wy o2 g2
          have m2 : Nb W2 Wy := hHeld.grown g2 (own_ge o1)
          refine hK.out _ _ m2 (fun hHeld => ?_)
          clear hK K
          simp only [Act.put, List.setIfInBounds_toArray, List.set_cons_zero, List.set_cons_succ]
          refine wpAnyH_ready (rs := [11]) (by kernel_rfl) (by simp) (cons_l rfl (by rfl) (fun K hK => ?_) .nil)
          refine wp_app (.tmp 43) (.tmp 46) 22 rfl W2.heap.size 29 i0 _ 17 176 Try.underlying22 hi0 hz0 hz1 hz2 rfl (by decide) _ (0 + k + 1) ([] ++ ((L.take k).flatMap OpD.cells) ++ (#[v0, v1, v2, v3, v4, v5, v6, v7, v8, v9, v10, v11, v12, v13, v14, v15, v16]).toList) rfl o2 _ 0 [] rfl (src_zero _ _ _) (by omega) (by omega) hHeld.size ?_
          intro u3 Wz o3 g3
          have m3 : Nb W2 Wz := hHeld.grown g3 (own_ge o2)
          refine hK.out _ _ m3 (fun hHeld => ?_)
          clear hK K
          simp only [Act.put, List.setIfInBounds_toArray, List.set_cons_zero, List.set_cons_succ]
          refine take_l (i := 12) (v := u3) rfl (by kernel_rfl) (by kernel_rfl) (by kernel_rfl) (fun _ _ _ h => h) (.inl ⟨by rfl, by intro w' hw; go_simp⟩) hHeld ?_
          simp only [Act.put, List.setIfInBounds_toArray, List.set_cons_zero, List.set_cons_succ]
          refine wpAnyH_done (by kernel_rfl) ?_ _
          go_wp2_with fail
          go_meet
          exact ⟨own_to o3 (by omega) (by rw [hdr.out]; simp [List.flatMap_append, List.flatMap_cons, hFl.out]), m3⟩
      · refine wp_bs 22 1 #[(0, (.tmp 41))] rfl #[(0, .agg #[v0, v1, v2, v3, v4, v5, v6, v7, v8, v9, v10, v11, v12, v13, v14, v15, v16])] (by kernel_rfl) _ (hbs.out _) ?_
        refine hK.out _ _ (hHeld.alloc _) (fun hHeld => ?_)
        clear hK K
        simp only [Act.put, List.setIfInBounds_toArray, List.set_cons_zero, List.set_cons_succ]
        have q0 : (Wd.alloc (.cells #[v0, v1, v2, v3, v4, v5, v6, v7, v8, v9, v10, v11, v12, v13, v14, v15, v16] 29)).heap[Wd.heap.size]? = some (.cells #[v0, v1, v2, v3, v4, v5, v6, v7, v8, v9, v10, v11, v12, v13, v14, v15, v16] 29 (0, 0)) := new_blk _ _ rfl
        have ltWe : Wd.heap.size < (Wd.alloc (.cells #[v0, v1, v2, v3, v4, v5, v6, v7, v8, v9, v10, v11, v12, v13, v14, v15, v16] 29)).heap.size := by simp
        generalize Wd.alloc (.cells #[v0, v1, v2, v3, v4, v5, v6, v7, v8, v9, v10, v11, v12, v13, v14, v15, v16] 29) = We at q0 ltWe hHeld ⊢
        refine wpAnyH_ready (rs := [0]) (by kernel_rfl) (by simp) (cons_l rfl (by rfl) (fun K hK => ?_) .nil)
        go_simp
        refine hK.out _ _ (hHeld.alloc _) (fun hHeld => ?_)
        clear hK K
        simp only [Act.put, List.setIfInBounds_toArray, List.set_cons_zero, List.set_cons_succ]
        have o0 : (We.alloc (.cells #[] 29)).ownsRow W2.heap.size 29 17 (.slice (some ⟨We.heap.size, 0, none⟩) 0 0) 0 [] := own0 (new_blk _ _ rfl) (Nat.le_trans hb0 (by omega))
        have ltWg : We.heap.size < (We.alloc (.cells #[] 29)).heap.size := by simp
        replace q0 := old_blk q0 (.cells #[] 29)
        generalize We.alloc (.cells #[] 29) = Wg at o0 ltWg q0 hHeld ⊢
        refine wpAnyH_ready (rs := [4]) (by kernel_rfl) (by simp) (cons_l rfl (by rfl) (fun K hK => ?_) .nil)
        refine wp_app (.tmp 36) (.tmp 39) 22 rfl W2.heap.size 29 i0 _ 17 176 Try.underlying22 hi0 hz0 hz1 hz2 rfl (by decide) _ 0 [] rfl o0 _ k ((L.take k).flatMap OpD.cells) rfl (hSA.out _ hHeld) (by omega) (by omega) hHeld.size ?_
        intro u1 Wf o1 g1
        have m1 : Nb W2 Wf := hHeld.grown g1 (own_ge o0)
        refine hK.out _ _ m1 (fun hHeld => ?_)
        clear hK K
        simp only [Act.put, List.setIfInBounds_toArray, List.set_cons_zero, List.set_cons_succ]
        replace q0 := grown_blk g1 q0 (fun e => absurd (show We.heap.size = Wd.heap.size from Option.some.inj e) (by omega))
        refine wpAnyH_ready (rs := [7]) (by kernel_rfl) (by simp) (cons_l rfl (by rfl) (fun K hK => ?_) .nil)
        refine wp_app (.tmp 40) (.tmp 42) 22 rfl W2.heap.size 29 i0 _ 17 176 Try.underlying22 hi0 hz0 hz1 hz2 rfl (by decide) _ (0 + k) ([] ++ ((L.take k).flatMap OpD.cells)) rfl o1 _ 1 (#[v0, v1, v2, v3, v4, v5, v6, v7, v8, v9, v10, v11, v12, v13, v14, v15, v16]).toList rfl (src_one q0 rfl hon.out) (by omega) (by omega) hHeld.size ?_
        intro u2 Wy o2 g2
        have m2 : Nb W2 Wy := hHeld.grown g2 (own_ge o1)
        refine hK.out _ _ m2 (fun hHeld => ?_)
        clear hK K
        simp only [Act.put, List.setIfInBounds_toArray, List.set_cons_zero, List.set_cons_succ]
        refine wpAnyH_ready (rs := [11]) (by kernel_rfl) (by simp) (cons_l rfl (by rfl) (fun K hK => ?_) .nil)
        refine wp_app (.tmp 43) (.tmp 46) 22 rfl W2.heap.size 29 i0 _ 17 176 Try.underlying22 hi0 hz0 hz1 hz2 rfl (by decide) _ (0 + k + 1) ([] ++ ((L.take k).flatMap OpD.cells) ++ (#[v0, v1, v2, v3, v4, v5, v6, v7, v8, v9, v10, v11, v12, v13, v14, v15, v16]).toList) rfl o2 _ 0 [] rfl (src_zero _ _ _) (by omega) (by omega) hHeld.size ?_
        intro u3 Wz o3 g3
        have m3 : Nb W2 Wz := hHeld.grown g3 (own_ge o2)
        refine hK.out _ _ m3 (fun hHeld => ?_)
        clear hK K
        simp only [Act.put, List.setIfInBounds_toArray, List.set_cons_zero, List.set_cons_succ]
        refine take_l (i := 12) (v := u3) rfl (by kernel_rfl) (by kernel_rfl) (by kernel_rfl) (fun _ _ _ h => h) (.inl ⟨by rfl, by intro w' hw; go_simp⟩) hHeld ?_
        simp only [Act.put, List.setIfInBounds_toArray, List.set_cons_zero, List.set_cons_succ]
        refine wpAnyH_done (by kernel_rfl) ?_ _
        go_wp2_with fail
        go_meet
        exact ⟨own_to o3 (by omega) (by rw [hdr.out]; simp [List.flatMap_append, List.flatMap_cons, hFl.out]), m3⟩
    · skip
      refine wp_region_held_drew (S := fun w' => Nb W2 w') (by kernel_rfl) (Nb.refl W2).drew1 (fun hHeld => ?_)
      change wpAnyH _ _ _ _ _ 13 (List.toArray [false, false, false, false, false, false, false, false, false, false, false, false, false]) _ _
      refine take_l (i := 1) (v := .slice (some ⟨b, o, none⟩) n c) rfl (by kernel_rfl) (by kernel_rfl) (by kernel_rfl) (fun _ _ _ h => h) (.inl ⟨by rfl, by intro w' hw; go_simp⟩) hHeld ?_
      simp only [Act.put, List.setIfInBounds_toArray, List.set_cons_zero, List.set_cons_succ]
      refine take_l (i := 2) (v := .int .i64 (k : Int)) rfl (by kernel_rfl) (by kernel_rfl) (by kernel_rfl) (fun _ _ _ h => h) (.inl ⟨by rfl, by intro w' hw; go_simp⟩) hHeld ?_
      simp only [Act.put, List.setIfInBounds_toArray, List.set_cons_zero, List.set_cons_succ]
      refine take_l (i := 3) (v := .slice (some ⟨b, o, none⟩) k c) rfl (by kernel_rfl) (by kernel_rfl) (by kernel_rfl) (fun _ _ _ h => h) (.inl ⟨by rfl, by intro w' hw; go_simp⟩) hHeld ?_
      simp only [Act.put, List.setIfInBounds_toArray, List.set_cons_zero, List.set_cons_succ]
      refine take_l (i := 5) (v := .agg ([v0, v1, v2, v3, v4, v5, v6, v7, v8, v9, v10, v11, v12, v13, v14, v15, v16] : List Value).toArray) rfl (by kernel_rfl) (by kernel_rfl) (by kernel_rfl) (fun _ _ _ h => h) (yieldsIf_load_mid (by rfl) 29 (.tmp 10) rfl w1.heap.size 0 rfl [v0, v1, v2, v3, v4, v5, v6, v7, v8, v9, v10, v11, v12, v13, v14, v15, v16] _ (fun w' hw => hw.range rF.out) Try.underlying29 rfl hiO.out) hHeld ?_
      simp only [Act.put, List.setIfInBounds_toArray, List.set_cons_zero, List.set_cons_succ]
      refine take_l (i := 8) (v := .slice (some ⟨b, o, none⟩) n c) rfl (by kernel_rfl) (by kernel_rfl) (by kernel_rfl) (fun _ _ _ h => h) (.inl ⟨by rfl, by intro w' hw; go_simp⟩) hHeld ?_
      simp only [Act.put, List.setIfInBounds_toArray, List.set_cons_zero, List.set_cons_succ]
      refine take_l (i := 9) (v := .int .i64 (k : Int)) rfl (by kernel_rfl) (by kernel_rfl) (by kernel_rfl) (fun _ _ _ h => h) (.inl ⟨by rfl, by intro w' hw; go_simp⟩) hHeld ?_
      simp only [Act.put, List.setIfInBounds_toArray, List.set_cons_zero, List.set_cons_succ]
      refine take_l (i := 10) (v := .slice (some ⟨b, o + k * 17, none⟩) (n - k) (c - k)) rfl (by kernel_rfl) (by kernel_rfl) (by kernel_rfl) (fun _ _ _ h => h) (.inl ⟨by rfl, by intro w' hw; go_simp⟩) hHeld ?_
      simp only [Act.put, List.setIfInBounds_toArray, List.set_cons_zero, List.set_cons_succ]
      generalize W2.drew = Wd at hHeld ⊢
      have hb0 := hHeld.size
      refine wpAnyH_ready (rs := [0, 6]) (by kernel_rfl) (by simp) (cons_l rfl (by rfl) (fun K hK => ?_) (cons_l rfl (by rfl) (fun K hK => ?_) .nil))
      · go_simp
        refine hK.out _ _ (hHeld.alloc _) (fun hHeld => ?_)
        clear hK K
        simp only [Act.put, List.setIfInBounds_toArray, List.set_cons_zero, List.set_cons_succ]
        have o0 : (Wd.alloc (.cells #[] 29)).ownsRow W2.heap.size 29 17 (.slice (some ⟨Wd.heap.size, 0, none⟩) 0 0) 0 [] := own0 (new_blk _ _ rfl) (Nat.le_trans hb0 (by omega))
        have ltWe : Wd.heap.size < (Wd.alloc (.cells #[] 29)).heap.size := by simp
        generalize Wd.alloc (.cells #[] 29) = We at o0 ltWe hHeld ⊢
        refine wpAnyH_ready (rs := [4, 6]) (by kernel_rfl) (by simp) (cons_l rfl (by rfl) (fun K hK => ?_) (cons_l rfl (by rfl) (fun K hK => ?_) .nil))
        · refine wp_app (.tmp 36) (.tmp 39) 22 rfl W2.heap.size 29 i0 _ 17 176 Try.underlying22 hi0 hz0 hz1 hz2 rfl (by decide) _ 0 [] rfl o0 _ k ((L.take k).flatMap OpD.cells) rfl (hSA.out _ hHeld) (by omega) (by omega) hHeld.size ?_
          intro u1 Wf o1 g1
          have m1 : Nb W2 Wf := hHeld.grown g1 (own_ge o0)
          refine hK.out _ _ m1 (fun hHeld => ?_)
          clear hK K
          simp only [Act.put, List.setIfInBounds_toArray, List.set_cons_zero, List.set_cons_succ]
          refine wpAnyH_ready (rs := [6]) (by kernel_rfl) (by simp) (cons_l rfl (by rfl) (fun K hK => ?_) .nil)
          refine wp_bs 22 1 #[(0, (.tmp 41))] rfl #[(0, .agg #[v0, v1, v2, v3, v4, v5, v6, v7, v8, v9, v10, v11, v12, v13, v14, v15, v16])] (by kernel_rfl) _ (hbs.out _) ?_
          refine hK.out _ _ (hHeld.alloc _) (fun hHeld => ?_)
          clear hK K
          simp only [Act.put, List.setIfInBounds_toArray, List.set_cons_zero, List.set_cons_succ]
          have q0 : (Wf.alloc (.cells #[v0, v1, v2, v3, v4, v5, v6, v7, v8, v9, v10, v11, v12, v13, v14, v15, v16] 29)).heap[Wf.heap.size]? = some (.cells #[v0, v1, v2, v3, v4, v5, v6, v7, v8, v9, v10, v11, v12, v13, v14, v15, v16] 29 (0, 0)) := new_blk _ _ rfl
          replace o1 := o1.alloc (.cells #[v0, v1, v2, v3, v4, v5, v6, v7, v8, v9, v10, v11, v12, v13, v14, v15, v16] 29)
          generalize Wf.alloc (.cells #[v0, v1, v2, v3, v4, v5, v6, v7, v8, v9, v10, v11, v12, v13, v14, v15, v16] 29) = Wg at q0 o1 hHeld ⊢
          refine wpAnyH_ready (rs := [7]) (by kernel_rfl) (by simp) (cons_l rfl (by rfl) (fun K hK => ?_) .nil)
          refine wp_app (.tmp 40) (.tmp 42) 22 rfl W2.heap.size 29 i0 _ 17 176 Try.underlying22 hi0 hz0 hz1 hz2 rfl (by decide) _ (0 + k) ([] ++ ((L.take k).flatMap OpD.cells)) rfl o1 _ 1 (#[v0, v1, v2, v3, v4, v5, v6, v7, v8, v9, v10, v11, v12, v13, v14, v15, v16]).toList rfl (src_one q0 rfl hon.out) (by omega) (by omega) hHeld.size ?_
          intro u2 Wy o2 g2
          have m2 : Nb W2 Wy := hHeld.grown g2 (own_ge o1)
          refine hK.out _ _ m2 (fun hHeld => ?_)
          clear hK K
          simp only [Act.put, List.setIfInBounds_toArray, List.set_cons_zero, List.set_cons_succ]
          refine wpAnyH_ready (rs := [11]) (by kernel_rfl) (by simp) (cons_l rfl (by rfl) (fun K hK => ?_) .nil)
          refine wp_app (.tmp 43) (.tmp 46) 22 rfl W2.heap.size 29 i0 _ 17 176 Try.underlying22 hi0 hz0 hz1 hz2 rfl (by decide) _ (0 + k + 1) ([] ++ ((L.take k).flatMap OpD.cells) ++ (#[v0, v1, v2, v3, v4, v5, v6, v7, v8, v9, v10, v11, v12, v13, v14, v15, v16]).toList) rfl o2 _ (n - k) ((L.drop k).flatMap OpD.cells) rfl (hSB.out _ hHeld) (by omega) (by omega) hHeld.size ?_
          intro u3 Wz o3 g3
          have m3 : Nb W2 Wz := hHeld.grown g3 (own_ge o2)
          refine hK.out _ _ m3 (fun hHeld => ?_)
          clear hK K
          simp only [Act.put, List.setIfInBounds_toArray, List.set_cons_zero, List.set_cons_succ]
          refine take_l (i := 12) (v := u3) rfl (by kernel_rfl) (by kernel_rfl) (by kernel_rfl) (fun _ _ _ h => h) (.inl ⟨by rfl, by intro w' hw; go_simp⟩) hHeld ?_
          simp only [Act.put, List.setIfInBounds_toArray, List.set_cons_zero, List.set_cons_succ]
          refine wpAnyH_done (by kernel_rfl) ?_ _
          go_wp2_with fail
          go_meet
          exact ⟨own_to o3 (by omega) (by simp [List.flatMap_append, List.flatMap_cons, hFl.out]), m3⟩
        · refine wp_bs 22 1 #[(0, (.tmp 41))] rfl #[(0, .agg #[v0, v1, v2, v3, v4, v5, v6, v7, v8, v9, v10, v11, v12, v13, v14, v15, v16])] (by kernel_rfl) _ (hbs.out _) ?_
          refine hK.out _ _ (hHeld.alloc _) (fun hHeld => ?_)
          clear hK K
          simp only [Act.put, List.setIfInBounds_toArray, List.set_cons_zero, List.set_cons_succ]
          have q0 : (We.alloc (.cells #[v0, v1, v2, v3, v4, v5, v6, v7, v8, v9, v10, v11, v12, v13, v14, v15, v16] 29)).heap[We.heap.size]? = some (.cells #[v0, v1, v2, v3, v4, v5, v6, v7, v8, v9, v10, v11, v12, v13, v14, v15, v16] 29 (0, 0)) := new_blk _ _ rfl
          replace o0 := o0.alloc (.cells #[v0, v1, v2, v3, v4, v5, v6, v7, v8, v9, v10, v11, v12, v13, v14, v15, v16] 29)
          generalize We.alloc (.cells #[v0, v1, v2, v3, v4, v5, v6, v7, v8, v9, v10, v11, v12, v13, v14, v15, v16] 29) = Wg at q0 o0 hHeld ⊢
          refine wpAnyH_ready (rs := [4]) (by kernel_rfl) (by simp) (cons_l rfl (by rfl) (fun K hK => ?_) .nil)
          refine wp_app (.tmp 36) (.tmp 39) 22 rfl W2.heap.size 29 i0 _ 17 176 Try.underlying22 hi0 hz0 hz1 hz2 rfl (by decide) _ 0 [] rfl o0 _ k ((L.take k).flatMap OpD.cells) rfl (hSA.out _ hHeld) (by omega) (by omega) hHeld.size ?_
          intro u1 Wf o1 g1
          have m1 : Nb W2 Wf := hHeld.grown g1 (own_ge o0)
          refine hK.out _ _ m1 (fun hHeld => ?_)
          clear hK K
          simp only [Act.put, List.setIfInBounds_toArray, List.set_cons_zero, List.set_cons_succ]
          replace q0 := grown_blk g1 q0 (fun e => absurd (show Wd.heap.size = We.heap.size from Option.some.inj e) (by omega))
          refine wpAnyH_ready (rs := [7]) (by kernel_rfl) (by simp) (cons_l rfl (by rfl) (fun K hK => ?_) .nil)
          refine wp_app (.tmp 40) (.tmp 42) 22 rfl W2.heap.size 29 i0 _ 17 176 Try.underlying22 hi0 hz0 hz1 hz2 rfl (by decide) _ (0 + k) ([] ++ ((L.take k).flatMap OpD.cells)) rfl o1 _ 1 (#[v0, v1, v2, v3, v4, v5, v6, v7, v8, v9, v10, v11, v12, v13, v14, v15, v16]).toList rfl (src_one q0 rfl hon.out) (by omega) (by omega) hHeld.size ?_
          intro u2 Wy o2 g2
          have m2 : Nb W2 Wy := hHeld.grown g2 (own_ge o1)
          refine hK.out _ _ m2 (fun hHeld => ?_)
          clear hK K
          simp only [Act.put, List.setIfInBounds_toArray, List.set_cons_zero, List.set_cons_succ]
          refine wpAnyH_ready (rs := [11]) (by kernel_rfl) (by simp) (cons_l rfl (by rfl) (fun K hK => ?_) .nil)
          refine wp_app (.tmp 43) (.tmp 46) 22 rfl W2.heap.size 29 i0 _ 17 176 Try.underlying22 hi0 hz0 hz1 hz2 rfl (by decide) _ (0 + k + 1) ([] ++ ((L.take k).flatMap OpD.cells) ++ (#[v0, v1, v2, v3, v4, v5, v6, v7, v8, v9, v10, v11, v12, v13, v14, v15, v16]).toList) rfl o2 _ (n - k) ((L.drop k).flatMap OpD.cells) rfl (hSB.out _ hHeld) (by omega) (by omega) hHeld.size ?_
          intro u3 Wz o3 g3
          have m3 : Nb W2 Wz := hHeld.grown g3 (own_ge o2)
          refine hK.out _ _ m3 (fun hHeld => ?_)
          clear hK K
          simp only [Act.put, List.setIfInBounds_toArray, List.set_cons_zero, List.set_cons_succ]
          refine take_l (i := 12) (v := u3) rfl (by kernel_rfl) (by kernel_rfl) (by kernel_rfl) (fun _ _ _ h => h) (.inl ⟨by rfl, by intro w' hw; go_simp⟩) hHeld ?_
          simp only [Act.put, List.setIfInBounds_toArray, List.set_cons_zero, List.set_cons_succ]
          refine wpAnyH_done (by kernel_rfl) ?_ _
          go_wp2_with fail
          go_meet
          exact ⟨own_to o3 (by omega) (by simp [List.flatMap_append, List.flatMap_cons, hFl.out]), m3⟩
      · refine wp_bs 22 1 #[(0, (.tmp 41))] rfl #[(0, .agg #[v0, v1, v2, v3, v4, v5, v6, v7, v8, v9, v10, v11, v12, v13, v14, v15, v16])] (by kernel_rfl) _ (hbs.out _) ?_
        refine hK.out _ _ (hHeld.alloc _) (fun hHeld => ?_)
        clear hK K
        simp only [Act.put, List.setIfInBounds_toArray, List.set_cons_zero, List.set_cons_succ]
        have q0 : (Wd.alloc (.cells #[v0, v1, v2, v3, v4, v5, v6, v7, v8, v9, v10, v11, v12, v13, v14, v15, v16] 29)).heap[Wd.heap.size]? = some (.cells #[v0, v1, v2, v3, v4, v5, v6, v7, v8, v9, v10, v11, v12, v13, v14, v15, v16] 29 (0, 0)) := new_blk _ _ rfl
        have ltWe : Wd.heap.size < (Wd.alloc (.cells #[v0, v1, v2, v3, v4, v5, v6, v7, v8, v9, v10, v11, v12, v13, v14, v15, v16] 29)).heap.size := by simp
        generalize Wd.alloc (.cells #[v0, v1, v2, v3, v4, v5, v6, v7, v8, v9, v10, v11, v12, v13, v14, v15, v16] 29) = We at q0 ltWe hHeld ⊢
        refine wpAnyH_ready (rs := [0]) (by kernel_rfl) (by simp) (cons_l rfl (by rfl) (fun K hK => ?_) .nil)
        go_simp
        refine hK.out _ _ (hHeld.alloc _) (fun hHeld => ?_)
        clear hK K
        simp only [Act.put, List.setIfInBounds_toArray, List.set_cons_zero, List.set_cons_succ]
        have o0 : (We.alloc (.cells #[] 29)).ownsRow W2.heap.size 29 17 (.slice (some ⟨We.heap.size, 0, none⟩) 0 0) 0 [] := own0 (new_blk _ _ rfl) (Nat.le_trans hb0 (by omega))
        have ltWg : We.heap.size < (We.alloc (.cells #[] 29)).heap.size := by simp
        replace q0 := old_blk q0 (.cells #[] 29)
        generalize We.alloc (.cells #[] 29) = Wg at o0 ltWg q0 hHeld ⊢
        refine wpAnyH_ready (rs := [4]) (by kernel_rfl) (by simp) (cons_l rfl (by rfl) (fun K hK => ?_) .nil)
        refine wp_app (.tmp 36) (.tmp 39) 22 rfl W2.heap.size 29 i0 _ 17 176 Try.underlying22 hi0 hz0 hz1 hz2 rfl (by decide) _ 0 [] rfl o0 _ k ((L.take k).flatMap OpD.cells) rfl (hSA.out _ hHeld) (by omega) (by omega) hHeld.size ?_
        intro u1 Wf o1 g1
        have m1 : Nb W2 Wf := hHeld.grown g1 (own_ge o0)
        refine hK.out _ _ m1 (fun hHeld => ?_)
        clear hK K
        simp only [Act.put, List.setIfInBounds_toArray, List.set_cons_zero, List.set_cons_succ]
        replace q0 := grown_blk g1 q0 (fun e => absurd (show We.heap.size = Wd.heap.size from Option.some.inj e) (by omega))
        refine wpAnyH_ready (rs := [7]) (by kernel_rfl) (by simp) (cons_l rfl (by rfl) (fun K hK => ?_) .nil)
        refine wp_app (.tmp 40) (.tmp 42) 22 rfl W2.heap.size 29 i0 _ 17 176 Try.underlying22 hi0 hz0 hz1 hz2 rfl (by decide) _ (0 + k) ([] ++ ((L.take k).flatMap OpD.cells)) rfl o1 _ 1 (#[v0, v1, v2, v3, v4, v5, v6, v7, v8, v9, v10, v11, v12, v13, v14, v15, v16]).toList rfl (src_one q0 rfl hon.out) (by omega) (by omega) hHeld.size ?_
        intro u2 Wy o2 g2
        have m2 : Nb W2 Wy := hHeld.grown g2 (own_ge o1)
        refine hK.out _ _ m2 (fun hHeld => ?_)
        clear hK K
        simp only [Act.put, List.setIfInBounds_toArray, List.set_cons_zero, List.set_cons_succ]
        refine wpAnyH_ready (rs := [11]) (by kernel_rfl) (by simp) (cons_l rfl (by rfl) (fun K hK => ?_) .nil)
        refine wp_app (.tmp 43) (.tmp 46) 22 rfl W2.heap.size 29 i0 _ 17 176 Try.underlying22 hi0 hz0 hz1 hz2 rfl (by decide) _ (0 + k + 1) ([] ++ ((L.take k).flatMap OpD.cells) ++ (#[v0, v1, v2, v3, v4, v5, v6, v7, v8, v9, v10, v11, v12, v13, v14, v15, v16]).toList) rfl o2 _ (n - k) ((L.drop k).flatMap OpD.cells) rfl (hSB.out _ hHeld) (by omega) (by omega) hHeld.size ?_
        intro u3 Wz o3 g3
        have m3 : Nb W2 Wz := hHeld.grown g3 (own_ge o2)
        refine hK.out _ _ m3 (fun hHeld => ?_)
        clear hK K
        simp only [Act.put, List.setIfInBounds_toArray, List.set_cons_zero, List.set_cons_succ]
        refine take_l (i := 12) (v := u3) rfl (by kernel_rfl) (by kernel_rfl) (by kernel_rfl) (fun _ _ _ h => h) (.inl ⟨by rfl, by intro w' hw; go_simp⟩) hHeld ?_
        simp only [Act.put, List.setIfInBounds_toArray, List.set_cons_zero, List.set_cons_succ]
        refine wpAnyH_done (by kernel_rfl) ?_ _
        go_wp2_with fail
        go_meet
        exact ⟨own_to o3 (by omega) (by simp [List.flatMap_append, List.flatMap_cons, hFl.out]), m3⟩
  case rest =>
    obtain ⟨hO, n3⟩ := hcut
    have bF3 := n3.block bF
    have d8 : wc.cell? ⟨w1.heap.size, 8, none⟩ = some v8 := cell_of_row _ _ 8 _ _ _ bF3
    have d9 : wc.cell? ⟨w1.heap.size, 9, none⟩ = some v9 := cell_of_row _ _ 9 _ _ _ bF3
    have d0 := frozen_blk bF3 8
    have d1 := frozen_blk bF3 9
    have hn3 := Lib.hid n3
    have hOh := Lib.hid hO
    have hb3 := Lib.hid bF3
    have hlt := lt_blk bF
    clear hO bF3 bF n3
    go_upto_region 7 with (fail)
    obtain ⟨W4, hW⟩ : ∃ W4, (wc.setCell ⟨w1.heap.size, 8, none⟩ (.int .i64 3)).setCell ⟨w1.heap.size, 9, none⟩ (.int .i64 3) = W4 := ⟨_, rfl⟩
    have n4 : Nb w W4 := by rw [← hW]; exact ((n2.trans hn3.out).setCell k1.size _).setCell k1.size _
    obtain ⟨x3, hx3⟩ : ∃ x, Value.int .i64 3 = x := ⟨_, rfl⟩
    have bF4 : W4.heap[w1.heap.size]? = some (.cells #[v0, v1, v2, v3, v4, v5, v6, v7, x3, x3, v10, v11, v12, v13, v14, v15, v16] 29 (0, 0)) := by
      rw [← hW, ← hx3]
      exact set_blk (set_blk hb3.out 8 _) 9 _
    have hO4 := Lib.hid (show W4.ownsRow W2.heap.size 29 17 u11 (k + 1 + (n - k)) ((L.take k ++ fenceD pred succ :: L.drop k).flatMap OpD.cells) by
      rw [← hW]
      exact own_set (own_set hOh.out hlt _) hlt _)
    have hFl2 := Lib.hid (show (fenceD 3 3).cells = (#[v0, v1, v2, v3, v4, v5, v6, v7, x3, x3, v10, v11, v12, v13, v14, v15, v16]).toList by rw [← hx3]; exact fence_cells hF'.out)
    have hon2 := Lib.hid (show ∀ u ∈ (#[v0, v1, v2, v3, v4, v5, v6, v7, x3, x3, v10, v11, v12, v13, v14, v15, v16]).toList, u.oneCell' = true by rw [← hFl2.out]; exact (fence_ok 3 3 w).ones)
    have rF2 := Lib.hid (show W4.rangeAt w1.heap.size 0 [v0, v1, v2, v3, v4, v5, v6, v7, x3, x3, v10, v11, v12, v13, v14, v15, v16] from rng17 bF4)
    have hbs2 := Lib.hid (fun W => bs1 (a := #[v0, v1, v2, v3, v4, v5, v6, v7, x3, x3, v10, v11, v12, v13, v14, v15, v16]) rfl W)
    have hSA2 := Lib.hid (show ∀ W, Nb W4 W → SrcR W (.slice (some ⟨b, o, none⟩) k c) k 17 ((L.take k).flatMap OpD.cells) from fun W kW => src_of (by rw [List.length_take, hn'.out]; omega) (fun i d hd => by
      rw [List.getElem?_take] at hd
      split at hd
      · exact (hxh.out i d hd).nb (n4.trans kW)
      · cases hd))
    have hSB2 := Lib.hid (show ∀ W, Nb W4 W → SrcR W (.slice (some ⟨b, o + k * 17, none⟩) (n - k) (c - k)) (n - k) 17 ((L.drop k).flatMap OpD.cells) from fun W kW => src_of (by rw [List.length_drop, hn'.out]) (fun i d hd => by
      rw [List.getElem?_drop] at hd
      rw [show o + k * 17 + i * 17 = o + (k + i) * 17 by omega]
      exact (hxh.out _ d hd).nb (n4.trans kW)))
    rw [hW]
    clear hW d8 d9 d0 d1 hn3 hOh hb3 hlt hSA hSB hon hFl hbs hF'
    have hz4 := n4.size
    go_cut [12] (fun s12 wx => wx.ownsRow W4.heap.size 29 17 s12 (k + 1 + (n - k)) ((L.take k ++ fenceD 3 3 :: L.drop k).flatMap OpD.cells) ∧ Nb W4 wx)
    case first =>
      by_cases hck : c = k
      · obtain rfl : k = n := by omega
        obtain rfl : k = c := hck.symm
        have hdr := Lib.hid (show L.drop k = [] from List.drop_of_length_le (by rw [hn'.out]; omega))
        refine wp_region_held_drew (S := fun w' => Nb W4 w') (by kernel_rfl) (Nb.refl W4).drew1 (fun hHeld => ?_)
        change wpAnyH _ _ _ _ _ 13 (List.toArray [false, false, false, false, false, false, false, false, false, false, false, false, false]) _ _
        refine take_l (i := 1) (v := .slice (some ⟨b, o, none⟩) k k) rfl (by kernel_rfl) (by kernel_rfl) (by kernel_rfl) (fun _ _ _ h => h) (.inl ⟨by rfl, by intro w' hw; go_simp⟩) hHeld ?_
        simp only [Act.put, List.setIfInBounds_toArray, List.set_cons_zero, List.set_cons_succ]
        refine take_l (i := 2) (v := .int .i64 (k : Int)) rfl (by kernel_rfl) (by kernel_rfl) (by kernel_rfl) (fun _ _ _ h => h) (.inl ⟨by rfl, by intro w' hw; go_simp⟩) hHeld ?_
        simp only [Act.put, List.setIfInBounds_toArray, List.set_cons_zero, List.set_cons_succ]
        refine take_l (i := 3) (v := .slice (some ⟨b, o, none⟩) k k) rfl (by kernel_rfl) (by kernel_rfl) (by kernel_rfl) (fun _ _ _ h => h) (.inl ⟨by rfl, by intro w' hw; go_simp⟩) hHeld ?_
        simp only [Act.put, List.setIfInBounds_toArray, List.set_cons_zero, List.set_cons_succ]
        refine take_l (i := 5) (v := .agg ([v0, v1, v2, v3, v4, v5, v6, v7, x3, x3, v10, v11, v12, v13, v14, v15, v16] : List Value).toArray) rfl (by kernel_rfl) (by kernel_rfl) (by kernel_rfl) (fun _ _ _ h => h) (yieldsIf_load_mid (by rfl) 29 (.tmp 10) rfl w1.heap.size 0 rfl [v0, v1, v2, v3, v4, v5, v6, v7, x3, x3, v10, v11, v12, v13, v14, v15, v16] _ (fun w' hw => hw.range rF2.out) Try.underlying29 rfl hiO.out) hHeld ?_
        simp only [Act.put, List.setIfInBounds_toArray, List.set_cons_zero, List.set_cons_succ]
        refine take_l (i := 8) (v := .slice (some ⟨b, o, none⟩) k k) rfl (by kernel_rfl) (by kernel_rfl) (by kernel_rfl) (fun _ _ _ h => h) (.inl ⟨by rfl, by intro w' hw; go_simp⟩) hHeld ?_
        simp only [Act.put, List.setIfInBounds_toArray, List.set_cons_zero, List.set_cons_succ]
        refine take_l (i := 9) (v := .int .i64 (k : Int)) rfl (by kernel_rfl) (by kernel_rfl) (by kernel_rfl) (fun _ _ _ h => h) (.inl ⟨by rfl, by intro w' hw; go_simp⟩) hHeld ?_
        simp only [Act.put, List.setIfInBounds_toArray, List.set_cons_zero, List.set_cons_succ]
        refine take_l (i := 10) (v := .slice (some ⟨b, o, none⟩) 0 0) rfl (by kernel_rfl) (by kernel_rfl) (by kernel_rfl) (fun _ _ _ h => h) (.inl ⟨by rfl, by intro w' hw; go_simp⟩) hHeld ?_
        simp only [Act.put, List.setIfInBounds_toArray, List.set_cons_zero, List.set_cons_succ]
        generalize W4.drew = Wd at hHeld ⊢
        have hb0 := hHeld.size
        refine wpAnyH_ready (rs := [0, 6]) (by kernel_rfl) (by simp) (cons_l rfl (by rfl) (fun K hK => ?_) (cons_l rfl (by rfl) (fun K hK => ?_) .nil))
        · go_simp
          refine hK.out _ _ (hHeld.alloc _) (fun hHeld => ?_)
          clear hK K
          simp only [Act.put, List.setIfInBounds_toArray, List.set_cons_zero, List.set_cons_succ]
          have o0 : (Wd.alloc (.cells #[] 29)).ownsRow W4.heap.size 29 17 (.slice (some ⟨Wd.heap.size, 0, none⟩) 0 0) 0 [] := own0 (new_blk _ _ rfl) (Nat.le_trans hb0 (by omega))
          have ltWe : Wd.heap.size < (Wd.alloc (.cells #[] 29)).heap.size := by simp
          generalize Wd.alloc (.cells #[] 29) = We at o0 ltWe hHeld ⊢
          refine wpAnyH_ready (rs := [4, 6]) (by kernel_rfl) (by simp) (cons_l rfl (by rfl) (fun K hK => ?_) (cons_l rfl (by rfl) (fun K hK => ?_) .nil))
          · refine wp_app (.tmp 50) (.tmp 53) 22 rfl W4.heap.size 29 i0 _ 17 176 Try.underlying22 hi0 hz0 hz1 hz2 rfl (by decide) _ 0 [] rfl o0 _ k ((L.take k).flatMap OpD.cells) rfl (hSA2.out _ hHeld) (by omega) (by omega) hHeld.size ?_
            intro u1 Wf o1 g1
            have m1 : Nb W4 Wf := hHeld.grown g1 (own_ge o0)
            refine hK.out _ _ m1 (fun hHeld => ?_)
            clear hK K
            simp only [Act.put, List.setIfInBounds_toArray, List.set_cons_zero, List.set_cons_succ]
            refine wpAnyH_ready (rs := [6]) (by kernel_rfl) (by simp) (cons_l rfl (by rfl) (fun K hK => ?_) .nil)
            refine wp_bs 22 1 #[(0, (.tmp 55))] rfl #[(0, .agg #[v0, v1, v2, v3, v4, v5, v6, v7, x3, x3, v10, v11, v12, v13, v14, v15, v16])] (by kernel_rfl) _ (hbs2.out _) ?_
            refine hK.out _ _ (hHeld.alloc _) (fun hHeld => ?_)
            clear hK K
            simp only [Act.put, List.setIfInBounds_toArray, List.set_cons_zero, List.set_cons_succ]
            have q0 : (Wf.alloc (.cells #[v0, v1, v2, v3, v4, v5, v6, v7, x3, x3, v10, v11, v12, v13, v14, v15, v16] 29)).heap[Wf.heap.size]? = some (.cells #[v0, v1, v2, v3, v4, v5, v6, v7, x3, x3, v10, v11, v12, v13, v14, v15, v16] 29 (0, 0)) := new_blk _ _ rfl
            replace o1 := o1.alloc (.cells #[v0, v1, v2, v3, v4, v5, v6, v7, x3, x3, v10, v11, v12, v13, v14, v15, v16] 29)
            generalize Wf.alloc (.cells #[v0, v1, v2, v3, v4, v5, v6, v7, x3, x3, v10, v11, v12, v13, v14, v15, v16] 29) = Wg at q0 o1 hHeld ⊢
            refine wpAnyH_ready (rs := [7]) (by kernel_rfl) (by simp) (cons_l rfl (by rfl) (fun K hK => ?_) .nil)
            refine wp_app (.tmp 54) (.tmp 56) 22 rfl W4.heap.size 29 i0 _ 17 176 Try.underlying22 hi0 hz0 hz1 hz2 rfl (by decide) _ (0 + k) ([] ++ ((L.take k).flatMap OpD.cells)) rfl o1 _ 1 (#[v0, v1, v2, v3, v4, v5, v6, v7, x3, x3, v10, v11, v12, v13, v14, v15, v16]).toList rfl (src_one q0 rfl hon2.out) (by omega) (by omega) hHeld.size ?_
            intro u2 Wy o2 g2
            have m2 : Nb W4 Wy := hHeld.grown g2 (own_ge o1)
            refine hK.out _ _ m2 (fun hHeld => ?_)
            clear hK K
            simp only [Act.put, List.setIfInBounds_toArray, List.set_cons_zero, List.set_cons_succ]
            refine wpAnyH_ready (rs := [11]) (by kernel_rfl) (by simp) (cons_l rfl (by rfl) (fun K hK => ?_) .nil)
            refine wp_app (.tmp 57) (.tmp 60) 22 rfl W4.heap.size 29 i0 _ 17 176 Try.underlying22 hi0 hz0 hz1 hz2 rfl (by decide) _ (0 + k + 1) ([] ++ ((L.take k).flatMap OpD.cells) ++ (#[v0, v1, v2, v3, v4, v5, v6, v7, x3, x3, v10, v11, v12, v13, v14, v15, v16]).toList) rfl o2 _ 0 [] rfl (src_zero _ _ _) (by omega) (by omega) hHeld.size ?_
            intro u3 Wz o3 g3
            have m3 : Nb W4 Wz := hHeld.grown g3 (own_ge o2)
            refine hK.out _ _ m3 (fun hHeld => ?_)
            clear hK K
            simp only [Act.put, List.setIfInBounds_toArray, List.set_cons_zero, List.set_cons_succ]
            refine take_l (i := 12) (v := u3) rfl (by kernel_rfl) (by kernel_rfl) (by kernel_rfl) (fun _ _ _ h => h) (.inl ⟨by rfl, by intro w' hw; go_simp⟩) hHeld ?_
            simp only [Act.put, List.setIfInBounds_toArray, List.set_cons_zero, List.set_cons_succ]
            refine wpAnyH_done (by kernel_rfl) ?_ _
            go_wp2_with fail
            go_meet
            exact ⟨own_to o3 (by omega) (by rw [hdr.out]; simp [List.flatMap_append, List.flatMap_cons, hFl2.out]), m3⟩
          · refine wp_bs 22 1 #[(0, (.tmp 55))] rfl #[(0, .agg #[v0, v1, v2, v3, v4, v5, v6, v7, x3, x3, v10, v11, v12, v13, v14, v15, v16])] (by kernel_rfl) _ (hbs2.out _) ?_
            refine hK.out _ _ (hHeld.alloc _) (fun hHeld => ?_)
            clear hK K
            simp only [Act.put, List.setIfInBounds_toArray, List.set_cons_zero, List.set_cons_succ]
            have q0 : (We.alloc (.cells #[v0, v1, v2, v3, v4, v5, v6, v7, x3, x3, v10, v11, v12, v13, v14, v15, v16] 29)).heap[We.heap.size]? = some (.cells #[v0, v1, v2, v3, v4, v5, v6, v7, x3, x3, v10, v11, v12, v13, v14, v15, v16] 29 (0, 0)) := new_blk _ _ rfl
            replace o0 := o0.alloc (.cells #[v0, v1, v2, v3, v4, v5, v6, v7, x3, x3, v10, v11, v12, v13, v14, v15, v16] 29)
            generalize We.alloc (.cells #[v0, v1, v2, v3, v4, v5, v6, v7, x3, x3, v10, v11, v12, v13, v14, v15, v16] 29) = Wg at q0 o0 hHeld ⊢
            refine wpAnyH_ready (rs := [4]) (by kernel_rfl) (by simp) (cons_l rfl (by rfl) (fun K hK => ?_) .nil)
            refine wp_app (.tmp 50) (.tmp 53) 22 rfl W4.heap.size 29 i0 _ 17 176 Try.underlying22 hi0 hz0 hz1 hz2 rfl (by decide) _ 0 [] rfl o0 _ k ((L.take k).flatMap OpD.cells) rfl (hSA2.out _ hHeld) (by omega) (by omega) hHeld.size ?_
            intro u1 Wf o1 g1
            have m1 : Nb W4 Wf := hHeld.grown g1 (own_ge o0)
            refine hK.out _ _ m1 (fun hHeld => ?_)
            clear hK K
            simp only [Act.put, List.setIfInBounds_toArray, List.set_cons_zero, List.set_cons_succ]
            replace q0 := grown_blk g1 q0 (fun e => absurd (show Wd.heap.size = We.heap.size from Option.some.inj e) (by omega))
            refine wpAnyH_ready (rs := [7]) (by kernel_rfl) (by simp) (cons_l rfl (by rfl) (fun K hK => ?_) .nil)
            refine wp_app (.tmp 54) (.tmp 56) 22 rfl W4.heap.size 29 i0 _ 17 176 Try.underlying22 hi0 hz0 hz1 hz2 rfl (by decide) _ (0 + k) ([] ++ ((L.take k).flatMap OpD.cells)) rfl o1 _ 1 (#[v0, v1, v2, v3, v4, v5, v6, v7, x3, x3, v10, v11, v12, v13, v14, v15, v16]).toList rfl (src_one q0 rfl hon2.out) (by omega) (by omega) hHeld.size ?_
            intro u2 Wy o2 g2
            have m2 : Nb W4 Wy := hHeld.grown g2 (own_ge o1)
            refine hK.out _ _ m2 (fun hHeld => ?_)
            clear hK K
            simp only [Act.put, List.setIfInBounds_toArray, List.set_cons_zero, List.set_cons_succ]
            refine wpAnyH_ready (rs := [11]) (by kernel_rfl) (by simp) (cons_l rfl (by rfl) (fun K hK => ?_) .nil)
            refine wp_app (.tmp 57) (.tmp 60) 22 rfl W4.heap.size 29 i0 _ 17 176 Try.underlying22 hi0 hz0 hz1 hz2 rfl (by decide) _ (0 + k + 1) ([] ++ ((L.take k).flatMap OpD.cells) ++ (#[v0, v1, v2, v3, v4, v5, v6, v7, x3, x3, v10, v11, v12, v13, v14, v15, v16]).toList) rfl o2 _ 0 [] rfl (src_zero _ _ _) (by omega) (by omega) hHeld.size ?_
            intro u3 Wz o3 g3
            have m3 : Nb W4 Wz := hHeld.grown g3 (own_ge o2)
            refine hK.out _ _ m3 (fun hHeld => ?_)
            clear hK K
            simp only [Act.put, List.setIfInBounds_toArray, List.set_cons_zero, List.set_cons_succ]
            refine take_l (i := 12) (v := u3) rfl (by kernel_rfl) (by kernel_rfl) (by kernel_rfl) (fun _ _ _ h => h) (.inl ⟨by rfl, by intro w' hw; go_simp⟩) hHeld ?_
            simp only [Act.put, List.setIfInBounds_toArray, List.set_cons_zero, List.set_cons_succ]
            refine wpAnyH_done (by kernel_rfl) ?_ _
            go_wp2_with fail
            go_meet
            exact ⟨own_to o3 (by omega) (by rw [hdr.out]; simp [List.flatMap_append, List.flatMap_cons, hFl2.out]), m3⟩
        · refine wp_bs 22 1 #[(0, (.tmp 55))] rfl #[(0, .agg #[v0, v1, v2, v3, v4, v5, v6, v7, x3, x3, v10, v11, v12, v13, v14, v15, v16])] (by kernel_rfl) _ (hbs2.out _) ?_
          refine hK.out _ _ (hHeld.alloc _) (fun hHeld => ?_)
          clear hK K
          simp only [Act.put, List.setIfInBounds_toArray, List.set_cons_zero, List.set_cons_succ]
          have q0 : (Wd.alloc (.cells #[v0, v1, v2, v3, v4, v5, v6, v7, x3, x3, v10, v11, v12, v13, v14, v15, v16] 29)).heap[Wd.heap.size]? = some (.cells #[v0, v1, v2, v3, v4, v5, v6, v7, x3, x3, v10, v11, v12, v13, v14, v15, v16] 29 (0, 0)) := new_blk _ _ rfl
          have ltWe : Wd.heap.size < (Wd.alloc (.cells #[v0, v1, v2, v3, v4, v5, v6, v7, x3, x3, v10, v11, v12, v13, v14, v15, v16] 29)).heap.size := by simp
          generalize Wd.alloc (.cells #[v0, v1, v2, v3, v4, v5, v6, v7, x3, x3, v10, v11, v12, v13, v14, v15, v16] 29) = We at q0 ltWe hHeld ⊢
          refine wpAnyH_ready (rs := [0]) (by kernel_rfl) (by simp) (cons_l rfl (by rfl) (fun K hK => ?_) .nil)
          go_simp
          refine hK.out _ _ (hHeld.alloc _) (fun hHeld => ?_)
          clear hK K
          simp only [Act.put, List.setIfInBounds_toArray, List.set_cons_zero, List.set_cons_succ]
          have o0 : (We.alloc (.cells #[] 29)).ownsRow W4.heap.size 29 17 (.slice (some ⟨We.heap.size, 0, none⟩) 0 0) 0 [] := own0 (new_blk _ _ rfl) (Nat.le_trans hb0 (by omega))
          have ltWg : We.heap.size < (We.alloc (.cells #[] 29)).heap.size := by simp
          replace q0 := old_blk q0 (.cells #[] 29)
          generalize We.alloc (.cells #[] 29) = Wg at o0 ltWg q0 hHeld ⊢
          refine wpAnyH_ready (rs := [4]) (by kernel_rfl) (by simp) (cons_l rfl (by rfl) (fun K hK => ?_) .nil)
          refine wp_app (.tmp 50) (.tmp 53) 22 rfl W4.heap.size 29 i0 _ 17 176 Try.underlying22 hi0 hz0 hz1 hz2 rfl (by decide) _ 0 [] rfl o0 _ k ((L.take k).flatMap OpD.cells) rfl (hSA2.out _ hHeld) (by omega) (by omega) hHeld.size ?_
          intro u1 Wf o1 g1
          have m1 : Nb W4 Wf := hHeld.grown g1 (own_ge o0)
          refine hK.out _ _ m1 (fun hHeld => ?_)
          clear hK K
          simp only [Act.put, List.setIfInBounds_toArray, List.set_cons_zero, List.set_cons_succ]
          replace q0 := grown_blk g1 q0 (fun e => absurd (show We.heap.size = Wd.heap.size from Option.some.inj e) (by omega))
          refine wpAnyH_ready (rs := [7]) (by kernel_rfl) (by simp) (cons_l rfl (by rfl) (fun K hK => ?_) .nil)
          refine wp_app (.tmp 54) (.tmp 56) 22 rfl W4.heap.size 29 i0 _ 17 176 Try.underlying22 hi0 hz0 hz1 hz2 rfl (by decide) _ (0 + k) ([] ++ ((L.take k).flatMap OpD.cells)) rfl o1 _ 1 (#[v0, v1, v2, v3, v4, v5, v6, v7, x3, x3, v10, v11, v12, v13, v14, v15, v16]).toList rfl (src_one q0 rfl hon2.out) (by omega) (by omega) hHeld.size ?_
          intro u2 Wy o2 g2
          have m2 : Nb W4 Wy := hHeld.grown g2 (own_ge o1)
          refine hK.out _ _ m2 (fun hHeld => ?_)
          clear hK K
          simp only [Act.put, List.setIfInBounds_toArray, List.set_cons_zero, List.set_cons_succ]
          refine wpAnyH_ready (rs := [11]) (by kernel_rfl) (by simp) (cons_l rfl (by rfl) (fun K hK => ?_) .nil)
          refine wp_app (.tmp 57) (.tmp 60) 22 rfl W4.heap.size 29 i0 _ 17 176 Try.underlying22 hi0 hz0 hz1 hz2 rfl (by decide) _ (0 + k + 1) ([] ++ ((L.take k).flatMap OpD.cells) ++ (#[v0, v1, v2, v3, v4, v5, v6, v7, x3, x3, v10, v11, v12, v13, v14, v15, v16]).toList) rfl o2 _ 0 [] rfl (src_zero _ _ _) (by omega) (by omega) hHeld.size ?_
          intro u3 Wz o3 g3
          have m3 : Nb W4 Wz := hHeld.grown g3 (own_ge o2)
          refine hK.out _ _ m3 (fun hHeld => ?_)
          clear hK K
          simp only [Act.put, List.setIfInBounds_toArray, List.set_cons_zero, List.set_cons_succ]
          refine take_l (i := 12) (v := u3) rfl (by kernel_rfl) (by kernel_rfl) (by kernel_rfl) (fun _ _ _ h => h) (.inl ⟨by rfl, by intro w' hw; go_simp⟩) hHeld ?_
          simp only [Act.put, List.setIfInBounds_toArray, List.set_cons_zero, List.set_cons_succ]
          refine wpAnyH_done (by kernel_rfl) ?_ _
          go_wp2_with fail
          go_meet
          exact ⟨own_to o3 (by omega) (by rw [hdr.out]; simp [List.flatMap_append, List.flatMap_cons, hFl2.out]), m3⟩
      · skip
        refine wp_region_held_drew (S := fun w' => Nb W4 w') (by kernel_rfl) (Nb.refl W4).drew1 (fun hHeld => ?_)
        change wpAnyH _ _ _ _ _ 13 (List.toArray [false, false, false, false, false, false, false, false, false, false, false, false, false]) _ _
        refine take_l (i := 1) (v := .slice (some ⟨b, o, none⟩) n c) rfl (by kernel_rfl) (by kernel_rfl) (by kernel_rfl) (fun _ _ _ h => h) (.inl ⟨by rfl, by intro w' hw; go_simp⟩) hHeld ?_
        simp only [Act.put, List.setIfInBounds_toArray, List.set_cons_zero, List.set_cons_succ]
        refine take_l (i := 2) (v := .int .i64 (k : Int)) rfl (by kernel_rfl) (by kernel_rfl) (by kernel_rfl) (fun _ _ _ h => h) (.inl ⟨by rfl, by intro w' hw; go_simp⟩) hHeld ?_
        simp only [Act.put, List.setIfInBounds_toArray, List.set_cons_zero, List.set_cons_succ]
        refine take_l (i := 3) (v := .slice (some ⟨b, o, none⟩) k c) rfl (by kernel_rfl) (by kernel_rfl) (by kernel_rfl) (fun _ _ _ h => h) (.inl ⟨by rfl, by intro w' hw; go_simp⟩) hHeld ?_
        simp only [Act.put, List.setIfInBounds_toArray, List.set_cons_zero, List.set_cons_succ]
        refine take_l (i := 5) (v := .agg ([v0, v1, v2, v3, v4, v5, v6, v7, x3, x3, v10, v11, v12, v13, v14, v15, v16] : List Value).toArray) rfl (by kernel_rfl) (by kernel_rfl) (by kernel_rfl) (fun _ _ _ h => h) (yieldsIf_load_mid (by rfl) 29 (.tmp 10) rfl w1.heap.size 0 rfl [v0, v1, v2, v3, v4, v5, v6, v7, x3, x3, v10, v11, v12, v13, v14, v15, v16] _ (fun w' hw => hw.range rF2.out) Try.underlying29 rfl hiO.out) hHeld ?_
        simp only [Act.put, List.setIfInBounds_toArray, List.set_cons_zero, List.set_cons_succ]
        refine take_l (i := 8) (v := .slice (some ⟨b, o, none⟩) n c) rfl (by kernel_rfl) (by kernel_rfl) (by kernel_rfl) (fun _ _ _ h => h) (.inl ⟨by rfl, by intro w' hw; go_simp⟩) hHeld ?_
        simp only [Act.put, List.setIfInBounds_toArray, List.set_cons_zero, List.set_cons_succ]
        refine take_l (i := 9) (v := .int .i64 (k : Int)) rfl (by kernel_rfl) (by kernel_rfl) (by kernel_rfl) (fun _ _ _ h => h) (.inl ⟨by rfl, by intro w' hw; go_simp⟩) hHeld ?_
        simp only [Act.put, List.setIfInBounds_toArray, List.set_cons_zero, List.set_cons_succ]
        refine take_l (i := 10) (v := .slice (some ⟨b, o + k * 17, none⟩) (n - k) (c - k)) rfl (by kernel_rfl) (by kernel_rfl) (by kernel_rfl) (fun _ _ _ h => h) (.inl ⟨by rfl, by intro w' hw; go_simp⟩) hHeld ?_
        simp only [Act.put, List.setIfInBounds_toArray, List.set_cons_zero, List.set_cons_succ]
        generalize W4.drew = Wd at hHeld ⊢
        have hb0 := hHeld.size
        refine wpAnyH_ready (rs := [0, 6]) (by kernel_rfl) (by simp) (cons_l rfl (by rfl) (fun K hK => ?_) (cons_l rfl (by rfl) (fun K hK => ?_) .nil))
        · go_simp
          refine hK.out _ _ (hHeld.alloc _) (fun hHeld => ?_)
          clear hK K
          simp only [Act.put, List.setIfInBounds_toArray, List.set_cons_zero, List.set_cons_succ]
          have o0 : (Wd.alloc (.cells #[] 29)).ownsRow W4.heap.size 29 17 (.slice (some ⟨Wd.heap.size, 0, none⟩) 0 0) 0 [] := own0 (new_blk _ _ rfl) (Nat.le_trans hb0 (by omega))
          have ltWe : Wd.heap.size < (Wd.alloc (.cells #[] 29)).heap.size := by simp
          generalize Wd.alloc (.cells #[] 29) = We at o0 ltWe hHeld ⊢
          refine wpAnyH_ready (rs := [4, 6]) (by kernel_rfl) (by simp) (cons_l rfl (by rfl) (fun K hK => ?_) (cons_l rfl (by rfl) (fun K hK => ?_) .nil))
          · refine wp_app (.tmp 50) (.tmp 53) 22 rfl W4.heap.size 29 i0 _ 17 176 Try.underlying22 hi0 hz0 hz1 hz2 rfl (by decide) _ 0 [] rfl o0 _ k ((L.take k).flatMap OpD.cells) rfl (hSA2.out _ hHeld) (by omega) (by omega) hHeld.size ?_
            intro u1 Wf o1 g1
            have m1 : Nb W4 Wf := hHeld.grown g1 (own_ge o0)
            refine hK.out _ _ m1 (fun hHeld => ?_)
            clear hK K
            simp only [Act.put, List.setIfInBounds_toArray, List.set_cons_zero, List.set_cons_succ]
            refine wpAnyH_ready (rs := [6]) (by kernel_rfl) (by simp) (cons_l rfl (by rfl) (fun K hK => ?_) .nil)
            refine wp_bs 22 1 #[(0, (.tmp 55))] rfl #[(0, .agg #[v0, v1, v2, v3, v4, v5, v6, v7, x3, x3, v10, v11, v12, v13, v14, v15, v16])] (by kernel_rfl) _ (hbs2.out _) ?_
            refine hK.out _ _ (hHeld.alloc _) (fun hHeld => ?_)
            clear hK K
            simp only [Act.put, List.setIfInBounds_toArray, List.set_cons_zero, List.set_cons_succ]
            have q0 : (Wf.alloc (.cells #[v0, v1, v2, v3, v4, v5, v6, v7, x3, x3, v10, v11, v12, v13, v14, v15, v16] 29)).heap[Wf.heap.size]? = some (.cells #[v0, v1, v2, v3, v4, v5, v6, v7, x3, x3, v10, v11, v12, v13, v14, v15, v16] 29 (0, 0)) := new_blk _ _ rfl
            replace o1 := o1.alloc (.cells #[v0, v1, v2, v3, v4, v5, v6, v7, x3, x3, v10, v11, v12, v13, v14, v15, v16] 29)
            generalize Wf.alloc (.cells #[v0, v1, v2, v3, v4, v5, v6, v7, x3, x3, v10, v11, v12, v13, v14, v15, v16] 29) = Wg at q0 o1 hHeld ⊢
            refine wpAnyH_ready (rs := [7]) (by kernel_rfl) (by simp) (cons_l rfl (by rfl) (fun K hK => ?_) .nil)
            refine wp_app (.tmp 54) (.tmp 56) 22 rfl W4.heap.size 29 i0 _ 17 176 Try.underlying22 hi0 hz0 hz1 hz2 rfl (by decide) _ (0 + k) ([] ++ ((L.take k).flatMap OpD.cells)) rfl o1 _ 1 (#[v0, v1, v2, v3, v4, v5, v6, v7, x3, x3, v10, v11, v12, v13, v14, v15, v16]).toList rfl (src_one q0 rfl hon2.out) (by omega) (by omega) hHeld.size ?_
            intro u2 Wy o2 g2
            have m2 : Nb W4 Wy := hHeld.grown g2 (own_ge o1)
            refine hK.out _ _ m2 (fun hHeld => ?_)
            clear hK K
            simp only [Act.put, List.setIfInBounds_toArray, List.set_cons_zero, List.set_cons_succ]
            refine wpAnyH_ready (rs := [11]) (by kernel_rfl) (by simp) (cons_l rfl (by rfl) (fun K hK => ?_) .nil)
            refine wp_app (.tmp 57) (.tmp 60) 22 rfl W4.heap.size 29 i0 _ 17 176 Try.underlying22 hi0 hz0 hz1 hz2 rfl (by decide) _ (0 + k + 1) ([] ++ ((L.take k).flatMap OpD.cells) ++ (#[v0, v1, v2, v3, v4, v5, v6, v7, x3, x3, v10, v11, v12, v13, v14, v15, v16]).toList) rfl o2 _ (n - k) ((L.drop k).flatMap OpD.cells) rfl (hSB2.out _ hHeld) (by omega) (by omega) hHeld.size ?_
            intro u3 Wz o3 g3
            have m3 : Nb W4 Wz := hHeld.grown g3 (own_ge o2)
            refine hK.out _ _ m3 (fun hHeld => ?_)
            clear hK K
            simp only [Act.put, List.setIfInBounds_toArray, List.set_cons_zero, List.set_cons_succ]
            refine take_l (i := 12) (v := u3) rfl (by kernel_rfl) (by kernel_rfl) (by kernel_rfl) (fun _ _ _ h => h) (.inl ⟨by rfl, by intro w' hw; go_simp⟩) hHeld ?_
            simp only [Act.put, List.setIfInBounds_toArray, List.set_cons_zero, List.set_cons_succ]
            refine wpAnyH_done (by kernel_rfl) ?_ _
            go_wp2_with fail
            go_meet
            exact ⟨own_to o3 (by omega) (by simp [List.flatMap_append, List.flatMap_cons, hFl2.out]), m3⟩
          · refine wp_bs 22 1 #[(0, (.tmp 55))] rfl #[(0, .agg #[v0, v1, v2, v3, v4, v5, v6, v7, x3, x3, v10, v11, v12, v13, v14, v15, v16])] (by kernel_rfl) _ (hbs2.out _) ?_
            refine hK.out _ _ (hHeld.alloc _) (fun hHeld => ?_)
            clear hK K
            simp only [Act.put, List.setIfInBounds_toArray, List.set_cons_zero, List.set_cons_succ]
            have q0 : (We.alloc (.cells #[v0, v1, v2, v3, v4, v5, v6, v7, x3, x3, v10, v11, v12, v13, v14, v15, v16] 29)).heap[We.heap.size]? = some (.cells #[v0, v1, v2, v3, v4, v5, v6, v7, x3, x3, v10, v11, v12, v13, v14, v15, v16] 29 (0, 0)) := new_blk _ _ rfl
            replace o0 := o0.alloc (.cells #[v0, v1, v2, v3, v4, v5, v6, v7, x3, x3, v10, v11, v12, v13, v14, v15, v16] 29)
            generalize We.alloc (.cells #[v0, v1, v2, v3, v4, v5, v6, v7, x3, x3, v10, v11, v12, v13, v14, v15, v16] 29) = Wg at q0 o0 hHeld ⊢
            refine wpAnyH_ready (rs := [4]) (by kernel_rfl) (by simp) (cons_l rfl (by rfl) (fun K hK => ?_) .nil)
            refine wp_app (.tmp 50) (.tmp 53) 22 rfl W4.heap.size 29 i0 _ 17 176 Try.underlying22 hi0 hz0 hz1 hz2 rfl (by decide) _ 0 [] rfl o0 _ k ((L.take k).flatMap OpD.cells) rfl (hSA2.out _ hHeld) (by omega) (by omega) hHeld.size ?_
            intro u1 Wf o1 g1
            have m1 : Nb W4 Wf := hHeld.grown g1 (own_ge o0)
            refine hK.out _ _ m1 (fun hHeld => ?_)
            clear hK K
            simp only [Act.put, List.setIfInBounds_toArray, List.set_cons_zero, List.set_cons_succ]
            replace q0 := grown_blk g1 q0 (fun e => absurd (show Wd.heap.size = We.heap.size from Option.some.inj e) (by omega))
            refine wpAnyH_ready (rs := [7]) (by kernel_rfl) (by simp) (cons_l rfl (by rfl) (fun K hK => ?_) .nil)
            refine wp_app (.tmp 54) (.tmp 56) 22 rfl W4.heap.size 29 i0 _ 17 176 Try.underlying22 hi0 hz0 hz1 hz2 rfl (by decide) _ (0 + k) ([] ++ ((L.take k).flatMap OpD.cells)) rfl o1 _ 1 (#[v0, v1, v2, v3, v4, v5, v6, v7, x3, x3, v10, v11, v12, v13, v14, v15, v16]).toList rfl (src_one q0 rfl hon2.out) (by omega) (by omega) hHeld.size ?_
            intro u2 Wy o2 g2
            have m2 : Nb W4 Wy := hHeld.grown g2 (own_ge o1)
            refine hK.out _ _ m2 (fun hHeld => ?_)
            clear hK K
            simp only [Act.put, List.setIfInBounds_toArray, List.set_cons_zero, List.set_cons_succ]
            refine wpAnyH_ready (rs := [11]) (by kernel_rfl) (by simp) (cons_l rfl (by rfl) (fun K hK => ?_) .nil)
            refine wp_app (.tmp 57) (.tmp 60) 22 rfl W4.heap.size 29 i0 _ 17 176 Try.underlying22 hi0 hz0 hz1 hz2 rfl (by decide) _ (0 + k + 1) ([] ++ ((L.take k).flatMap OpD.cells) ++ (#[v0, v1, v2, v3, v4, v5, v6, v7, x3, x3, v10, v11, v12, v13, v14, v15, v16]).toList) rfl o2 _ (n - k) ((L.drop k).flatMap OpD.cells) rfl (hSB2.out _ hHeld) (by omega) (by omega) hHeld.size ?_
            intro u3 Wz o3 g3
            have m3 : Nb W4 Wz := hHeld.grown g3 (own_ge o2)
            refine hK.out _ _ m3 (fun hHeld => ?_)
            clear hK K
            simp only [Act.put, List.setIfInBounds_toArray, List.set_cons_zero, List.set_cons_succ]
            refine take_l (i := 12) (v := u3) rfl (by kernel_rfl) (by kernel_rfl) (by kernel_rfl) (fun _ _ _ h => h) (.inl ⟨by rfl, by intro w' hw; go_simp⟩) hHeld ?_
            simp only [Act.put, List.setIfInBounds_toArray, List.set_cons_zero, List.set_cons_succ]
            refine wpAnyH_done (by kernel_rfl) ?_ _
            go_wp2_with fail
            go_meet
            exact ⟨own_to o3 (by omega) (by simp [List.flatMap_append, List.flatMap_cons, hFl2.out]), m3⟩
        · refine wp_bs 22 1 #[(0, (.tmp 55))] rfl #[(0, .agg #[v0, v1, v2, v3, v4, v5, v6, v7, x3, x3, v10, v11, v12, v13, v14, v15, v16])] (by kernel_rfl) _ (hbs2.out _) ?_
          refine hK.out _ _ (hHeld.alloc _) (fun hHeld => ?_)
          clear hK K
          simp only [Act.put, List.setIfInBounds_toArray, List.set_cons_zero, List.set_cons_succ]
          have q0 : (Wd.alloc (.cells #[v0, v1, v2, v3, v4, v5, v6, v7, x3, x3, v10, v11, v12, v13, v14, v15, v16] 29)).heap[Wd.heap.size]? = some (.cells #[v0, v1, v2, v3, v4, v5, v6, v7, x3, x3, v10, v11, v12, v13, v14, v15, v16] 29 (0, 0)) := new_blk _ _ rfl
          have ltWe : Wd.heap.size < (Wd.alloc (.cells #[v0, v1, v2, v3, v4, v5, v6, v7, x3, x3, v10, v11, v12, v13, v14, v15, v16] 29)).heap.size := by simp
          generalize Wd.alloc (.cells #[v0, v1, v2, v3, v4, v5, v6, v7, x3, x3, v10, v11, v12, v13, v14, v15, v16] 29) = We at q0 ltWe hHeld ⊢
          refine wpAnyH_ready (rs := [0]) (by kernel_rfl) (by simp) (cons_l rfl (by rfl) (fun K hK => ?_) .nil)
          go_simp
          refine hK.out _ _ (hHeld.alloc _) (fun hHeld => ?_)
          clear hK K
          simp only [Act.put, List.setIfInBounds_toArray, List.set_cons_zero, List.set_cons_succ]
          have o0 : (We.alloc (.cells #[] 29)).ownsRow W4.heap.size 29 17 (.slice (some ⟨We.heap.size, 0, none⟩) 0 0) 0 [] := own0 (new_blk _ _ rfl) (Nat.le_trans hb0 (by omega))
          have ltWg : We.heap.size < (We.alloc (.cells #[] 29)).heap.size := by simp
          replace q0 := old_blk q0 (.cells #[] 29)
          generalize We.alloc (.cells #[] 29) = Wg at o0 ltWg q0 hHeld ⊢
          refine wpAnyH_ready (rs := [4]) (by kernel_rfl) (by simp) (cons_l rfl (by rfl) (fun K hK => ?_) .nil)
          refine wp_app (.tmp 50) (.tmp 53) 22 rfl W4.heap.size 29 i0 _ 17 176 Try.underlying22 hi0 hz0 hz1 hz2 rfl (by decide) _ 0 [] rfl o0 _ k ((L.take k).flatMap OpD.cells) rfl (hSA2.out _ hHeld) (by omega) (by omega) hHeld.size ?_
          intro u1 Wf o1 g1
          have m1 : Nb W4 Wf := hHeld.grown g1 (own_ge o0)
          refine hK.out _ _ m1 (fun hHeld => ?_)
          clear hK K
          simp only [Act.put, List.setIfInBounds_toArray, List.set_cons_zero, List.set_cons_succ]
          replace q0 := grown_blk g1 q0 (fun e => absurd (show We.heap.size = Wd.heap.size from Option.some.inj e) (by omega))
          refine wpAnyH_ready (rs := [7]) (by kernel_rfl) (by simp) (cons_l rfl (by rfl) (fun K hK => ?_) .nil)
          refine wp_app (.tmp 54) (.tmp 56) 22 rfl W4.heap.size 29 i0 _ 17 176 Try.underlying22 hi0 hz0 hz1 hz2 rfl (by decide) _ (0 + k) ([] ++ ((L.take k).flatMap OpD.cells)) rfl o1 _ 1 (#[v0, v1, v2, v3, v4, v5, v6, v7, x3, x3, v10, v11, v12, v13, v14, v15, v16]).toList rfl (src_one q0 rfl hon2.out) (by omega) (by omega) hHeld.size ?_
          intro u2 Wy o2 g2
          have m2 : Nb W4 Wy := hHeld.grown g2 (own_ge o1)
          refine hK.out _ _ m2 (fun hHeld => ?_)
          clear hK K
          simp only [Act.put, List.setIfInBounds_toArray, List.set_cons_zero, List.set_cons_succ]
          refine wpAnyH_ready (rs := [11]) (by kernel_rfl) (by simp) (cons_l rfl (by rfl) (fun K hK => ?_) .nil)
          refine wp_app (.tmp 57) (.tmp 60) 22 rfl W4.heap.size 29 i0 _ 17 176 Try.underlying22 hi0 hz0 hz1 hz2 rfl (by decide) _ (0 + k + 1) ([] ++ ((L.take k).flatMap OpD.cells) ++ (#[v0, v1, v2, v3, v4, v5, v6, v7, x3, x3, v10, v11, v12, v13, v14, v15, v16]).toList) rfl o2 _ (n - k) ((L.drop k).flatMap OpD.cells) rfl (hSB2.out _ hHeld) (by omega) (by omega) hHeld.size ?_
          intro u3 Wz o3 g3
          have m3 : Nb W4 Wz := hHeld.grown g3 (own_ge o2)
          refine hK.out _ _ m3 (fun hHeld => ?_)
          clear hK K
          simp only [Act.put, List.setIfInBounds_toArray, List.set_cons_zero, List.set_cons_succ]
          refine take_l (i := 12) (v := u3) rfl (by kernel_rfl) (by kernel_rfl) (by kernel_rfl) (fun _ _ _ h => h) (.inl ⟨by rfl, by intro w' hw; go_simp⟩) hHeld ?_
          simp only [Act.put, List.setIfInBounds_toArray, List.set_cons_zero, List.set_cons_succ]
          refine wpAnyH_done (by kernel_rfl) ?_ _
          go_wp2_with fail
          go_meet
          exact ⟨own_to o3 (by omega) (by simp [List.flatMap_append, List.flatMap_cons, hFl2.out]), m3⟩
    case rest =>
      obtain ⟨hO5, n5⟩ := hcut
      have N0 : Nb w wc := n4.trans n5
      have hM1 : OpsR wc u11 (L.take k ++ fenceD pred succ :: L.drop k) := ops_app (n := k + 1 + (n - k)) (by simp; have := hn'.out; omega) rfl (own_nb2 hO4.out n5) (hhas.out wc N0)
      have hhas2 : ∀ d ∈ L.take k ++ fenceD 3 3 :: L.drop k, d.Has wc := by
        intro d hd
        simp only [List.mem_append, List.mem_cons] at hd
        rcases hd with hd | rfl | hd
        · exact (hL.out.has d (List.mem_of_mem_take hd)).nb N0
        · exact fence_ok _ _ _
        · exact (hL.out.has d (List.mem_of_mem_drop hd)).nb N0
      have hM2 : OpsR wc u12 (L.take k ++ fenceD 3 3 :: L.drop k) := ops_app (n := k + 1 + (n - k)) (by simp; have := hn'.out; omega) rfl hO5 hhas2
      have hsh : ∀ (p s : Int), ∀ m ∈ L.take k ++ fenceD p s :: L.drop k, ShortOp m := by
        intro p s m hm
        simp only [List.mem_append, List.mem_cons] at hm
        rcases hm with hm | rfl | hm
        · exact hslh.out m (List.mem_of_mem_take hm)
        · exact ⟨by simp [fenceD], by simp [fenceD], by simp [fenceD]⟩
        · exact hslh.out m (List.mem_of_mem_drop hm)
      have hRL := Lib.hid (rules_c (hL.out.nb N0) (by rw [hn'.out]; omega) hslh.out)
      have hRM := Lib.hid (rules_c hM1 (by simp; have := hn'.out; omega) (hsh _ _))
      have hRu := Lib.hid (rule_c hM2 (by simp; have := hn'.out; omega) (hsh _ _))
      have hxw := Lib.hid (show ∀ (i : Nat) (d : OpD), L[i]? = some d → OpAt wc b (o + i * 17) d from fun i d hd => (hxh.out i d hd).nb N0)
      have N0h := Lib.hid N0
      have hiOh := hiO
      have hLtd := Lib.hid (List.take_append_drop k L)
      obtain ⟨W9, rfl⟩ : ∃ W9 : World, W9 = wc := ⟨_, rfl⟩
      clear hO4 hO5 hhas hhas2 hM1 hM2 hsh hxh N0 n4 n5 bF4 hz4 hz2' hiO hFl2 hon2 hbs2 hSA2 hSB2 hx3 x3 iF oF zF k1 n2 rF rF2 hi0 hz0 hz1 hz2 hmx ha r0
      go_wp2_with fail
      go_loopw [63] (fun i wr => ∃ q : Nat, q ≤ k ∧ i = .int .i64 q ∧ Nb W9 wr) (fun i _ => k - (intOf i).toNat)
      case atStart => exact ⟨0, Nat.zero_le _, rfl, Nb.refl _⟩
      case round =>
        obtain ⟨q, hq, rfl, hN⟩ := hrel
        by_cases hlt : q < k
        · have e1 : IntKind.i64.wrap ((q : Int) + 1) = ((q + 1 : Nat) : Int) := by rw [IntKind.wrap_i64]; omega
          go_wp2_with fail
          go_loopw [14] (fun b wi => ∃ m : Nat, k ≤ m ∧ m ≤ n ∧ b = .int .i64 m ∧ Nb W9 wi) (fun b _ => n - (intOf b).toNat)
          case atStart => exact ⟨k, Nat.le_refl _, hkn, rfl, hN⟩
          case round =>
            obtain ⟨m, hkm, hm, rfl, hN2⟩ := hrel
            by_cases hlt2 : m < n
            · have hsub := Lib.hid (show ∀ x ∈ rulesS L (q : Int) (m : Int), x ∈ rulesS (L.take k ++ fenceD pred succ :: L.drop k) (q : Int) ((m : Int) + 1) by
                have h := fun x => more_sub (A := L.take k) (B := L.drop k) (o := fenceD pred succ) rfl (i := q) (j := m) (by rw [List.length_take, hn'.out]; omega) (by rw [List.length_take]; omega) (by rw [List.take_append_drop, hn'.out]; exact hlt2) (x := x)
                rw [List.take_append_drop] at h
                exact h)
              have e2 : IntKind.i64.wrap ((m : Int) + 1) = (m : Int) + 1 := by rw [IntKind.wrap_i64]; omega
              go_wp2_with (first
                | (go_at_call 8; (with_reducible refine (hRL.out _ hN2 _ _ (by omega) (by omega)).mono ?_); rintro e wa ⟨u, rfl, hu, ka⟩; obtain ⟨pu, cu, rfl⟩ := hu.cases; have hu' := Lib.hid (hu.at_ rfl); have hNa := hN2.trans ka; have hlen := rulesS_len L (q : Int) (m : Int); have hLen := Lib.hid (show (rulesS L (q : Int) (m : Int)).length = (rulesS L (q : Int) (m : Int)).length from rfl); clear hu; generalize (rulesS L (q : Int) (m : Int)).length = nr at *)
                | (go_at_call 8; (with_reducible refine (hRM.out _ hNa _ _ (by omega) (by omega)).mono ?_); rintro e wb ⟨u2, rfl, hu2, kb⟩; have hu2' := Lib.hid hu2; have hNb := hNa.trans kb; clear hu2))
              go_loopw [84] (fun t wl => ∃ x : Nat, x ≤ nr ∧ t = .int .i64 x ∧ Nb wb wl) (fun t _ => nr - (intOf t).toNat)
              case atStart => exact ⟨0, Nat.zero_le _, rfl, Nb.refl _⟩
              case round =>
                obtain ⟨x, hx, rfl, hN3⟩ := hrel
                by_cases hlt3 : x < nr
                · obtain ⟨bb, oo, y, rfl, hy, hc, hcap3⟩ := hu'.out x hlt3
                  have hIn := Lib.hid (show hasI (rulesS (L.take k ++ fenceD pred succ :: L.drop k) (q : Int) ((m : Int) + 1)) y = true by
                    have := hsub.out y (List.mem_of_getElem? hy)
                    unfold hasI
                    rw [List.contains_eq_mem]
                    simp only [this, decide_true])
                  have hc' := (kb.trans hN3).cell hc
                  have hx3 : x < cu := by omega
                  have e3 : IntKind.i64.wrap ((x : Int) + 1) = ((x + 1 : Nat) : Int) := by rw [IntKind.wrap_i64]; omega
                  clear hy hc
                  go_wp2_with (go_at_call 9; refine (in_any u2 _ y _ (hu2'.out.nb hN3) (Nat.le_trans (rulesS_len _ _ _) (by decide))).mono ?_; rintro e w' ⟨rfl, rfl⟩; rw [hIn.out])
                  go_roundw
                  case rel => exact ⟨x + 1, hlt3, by simp, hN3⟩
                  case measure => simp [intOf, e3]; omega
                · obtain rfl : x = nr := by omega
                  go_upto_region 22 with (fail)
                  obtain ⟨d, hd⟩ : ∃ d, L[q]? = some d := ⟨_, List.getElem?_eq_getElem (by rw [hn'.out]; omega)⟩
                  obtain ⟨d2, hd2⟩ : ∃ d, L[m]? = some d := ⟨_, List.getElem?_eq_getElem (by rw [hn'.out]; omega)⟩
                  have hA := Lib.hid (hxw.out q d hd)
                  have hB := Lib.hid (hxw.out m d2 hd2)
                  have NWl := hNb.trans hN3
                  have NWs := NWl.size
                  have hAll := Lib.hid (fun hmv => more_all (A := L.take k) (B := L.drop k) (i := q) (j := m) (a := d) (b := d2) (by rw [List.length_take, hn'.out]; omega) (by rw [List.length_take]; omega) (by rw [hLtd.out]; exact hd) (by rw [hLtd.out]; exact hd2) hmv)
                  have p1 : (q : Int) < (n : Int) := by omega
                  have p2 : (m : Int) < (n : Int) := by omega
                  clear hd hd2 hu' hu2' hsub hNb hNa ka kb
                  have oneA := Lib.hid (show d.cells.toArray.all (·.oneCell') = true from Array.all_eq_true_iff_forall_mem.2 (fun u hu => hA.out.has.ones u (by simpa using hu)))
                  have oneB := Lib.hid (show d2.cells.toArray.all (·.oneCell') = true from Array.all_eq_true_iff_forall_mem.2 (fun u hu => hB.out.has.ones u (by simpa using hu)))
                  go_cut [19, 20] from 67 to 132 (fun s19 s20 wx => ∃ g1 g2 : Nat, s19 = .pointer (some ⟨g1, 0, none⟩) ∧ s20 = .pointer (some ⟨g2, 0, none⟩) ∧ wx.heap[g1]? = some (.cells d.cells.toArray 29 (0, 0)) ∧ wx.heap[g2]? = some (.cells d2.cells.toArray 29 (0, 0)) ∧ Nb W9 wx)
                  case first =>
                    refine wp_region_held_drew (S := fun w' => Nb W9 w') (by kernel_rfl) NWl.drew1 (fun hHeld => ?_)
                    change wpAnyH _ _ _ _ _ 12 (List.toArray [false, false, false, false, false, false, false, false, false, false, false, false]) _ _
                    refine take_l (i := 0) (v := .slice (some ⟨b, o, none⟩) n c) rfl (by kernel_rfl) (by kernel_rfl) (by kernel_rfl) (fun _ _ _ h => h) (.inl ⟨by rfl, by intro w' hw; go_simp⟩) hHeld ?_
                    simp only [Act.put, List.setIfInBounds_toArray, List.set_cons_zero, List.set_cons_succ]
                    refine take_l (i := 1) (v := .int .i64 (q : Int)) rfl (by kernel_rfl) (by kernel_rfl) (by kernel_rfl) (fun _ _ _ h => h) (.inl ⟨by rfl, by intro w' hw; go_simp⟩) hHeld ?_
                    simp only [Act.put, List.setIfInBounds_toArray, List.set_cons_zero, List.set_cons_succ]
                    refine take_l (i := 2) (v := .pointer (some ⟨b, o + q * 17, none⟩)) rfl (by kernel_rfl) (by kernel_rfl) (by kernel_rfl) (fun _ _ _ h => h) (.inl ⟨by rfl, by intro w' hw; go_simp⟩) hHeld ?_
                    simp only [Act.put, List.setIfInBounds_toArray, List.set_cons_zero, List.set_cons_succ]
                    refine take_l (i := 3) (v := .agg d.cells.toArray) rfl (by kernel_rfl) (by kernel_rfl) (by kernel_rfl) (fun _ _ _ h => h) (yieldsIf_load_mid (by rfl) 29 (.tmp 95) rfl b (o + q * 17) rfl d.cells _ (fun w' hw => (hA.out.nb hw).range) Try.underlying29 rfl hiOh.out) hHeld ?_
                    simp only [Act.put, List.setIfInBounds_toArray, List.set_cons_zero, List.set_cons_succ]
                    refine take_l (i := 4) (v := .slice (some ⟨b, o, none⟩) n c) rfl (by kernel_rfl) (by kernel_rfl) (by kernel_rfl) (fun _ _ _ h => h) (.inl ⟨by rfl, by intro w' hw; go_simp⟩) hHeld ?_
                    simp only [Act.put, List.setIfInBounds_toArray, List.set_cons_zero, List.set_cons_succ]
                    refine take_l (i := 5) (v := .int .i64 (m : Int)) rfl (by kernel_rfl) (by kernel_rfl) (by kernel_rfl) (fun _ _ _ h => h) (.inl ⟨by rfl, by intro w' hw; go_simp⟩) hHeld ?_
                    simp only [Act.put, List.setIfInBounds_toArray, List.set_cons_zero, List.set_cons_succ]
                    refine take_l (i := 6) (v := .pointer (some ⟨b, o + m * 17, none⟩)) rfl (by kernel_rfl) (by kernel_rfl) (by kernel_rfl) (fun _ _ _ h => h) (.inl ⟨by rfl, by intro w' hw; go_simp⟩) hHeld ?_
                    simp only [Act.put, List.setIfInBounds_toArray, List.set_cons_zero, List.set_cons_succ]
                    refine take_l (i := 7) (v := .agg d2.cells.toArray) rfl (by kernel_rfl) (by kernel_rfl) (by kernel_rfl) (fun _ _ _ h => h) (yieldsIf_load_mid (by rfl) 29 (.tmp 99) rfl b (o + m * 17) rfl d2.cells _ (fun w' hw => (hB.out.nb hw).range) Try.underlying29 rfl hiOh.out) hHeld ?_
                    simp only [Act.put, List.setIfInBounds_toArray, List.set_cons_zero, List.set_cons_succ]
                    have NWd := hHeld.size
                    generalize wr.drew = Wd at NWd hHeld ⊢
                    refine wpAnyH_ready (rs := [8, 9]) (by kernel_rfl) (by simp) (cons_l rfl (by rfl) (fun K hK => ?_) (cons_l rfl (by rfl) (fun K hK => ?_) .nil))
                    · go_simp
                      refine hK.out _ _ (hHeld.alloc _) (fun hHeld => ?_)
                      clear hK K
                      simp only [Act.put, List.setIfInBounds_toArray, List.set_cons_zero, List.set_cons_succ]
                      refine wpAnyH_ready (rs := [9]) (by kernel_rfl) (by simp) (cons_l rfl (by rfl) (fun K hK => ?_) .nil)
                      go_simp
                      refine hK.out _ _ (hHeld.alloc _) (fun hHeld => ?_)
                      clear hK K
                      simp only [Act.put, List.setIfInBounds_toArray, List.set_cons_zero, List.set_cons_succ]
                      have k1 : ((Wd.alloc (.cells #[.int .i64 0, .bool false, .bool false, .bool false, .int .u64 0, .int .i64 0, .bool false, .bool false, .int .i64 0, .int .i64 0, .int .u64 0, .int .u64 0, .slice none 0 0, .int .i64 0, .slice none 0 0, .slice none 0 0, .slice none 0 0] 29)).alloc (.cells #[.int .i64 0, .bool false, .bool false, .bool false, .int .u64 0, .int .i64 0, .bool false, .bool false, .int .i64 0, .int .i64 0, .int .u64 0, .int .u64 0, .slice none 0 0, .int .i64 0, .slice none 0 0, .slice none 0 0, .slice none 0 0] 29)).heap[Wd.heap.size]? = some (.cells #[.int .i64 0, .bool false, .bool false, .bool false, .int .u64 0, .int .i64 0, .bool false, .bool false, .int .i64 0, .int .i64 0, .int .u64 0, .int .u64 0, .slice none 0 0, .int .i64 0, .slice none 0 0, .slice none 0 0, .slice none 0 0] 29 (0, 0)) := old_blk (new_blk _ _ rfl) _
                      have k2 : ((Wd.alloc (.cells #[.int .i64 0, .bool false, .bool false, .bool false, .int .u64 0, .int .i64 0, .bool false, .bool false, .int .i64 0, .int .i64 0, .int .u64 0, .int .u64 0, .slice none 0 0, .int .i64 0, .slice none 0 0, .slice none 0 0, .slice none 0 0] 29)).alloc (.cells #[.int .i64 0, .bool false, .bool false, .bool false, .int .u64 0, .int .i64 0, .bool false, .bool false, .int .i64 0, .int .i64 0, .int .u64 0, .int .u64 0, .slice none 0 0, .int .i64 0, .slice none 0 0, .slice none 0 0, .slice none 0 0] 29)).heap[Wd.heap.size + 1]? = some (.cells #[.int .i64 0, .bool false, .bool false, .bool false, .int .u64 0, .int .i64 0, .bool false, .bool false, .int .i64 0, .int .i64 0, .int .u64 0, .int .u64 0, .slice none 0 0, .int .i64 0, .slice none 0 0, .slice none 0 0, .slice none 0 0] 29 (0, 0)) := new_blk _ _ (by simp)
                      generalize ((Wd.alloc (.cells #[.int .i64 0, .bool false, .bool false, .bool false, .int .u64 0, .int .i64 0, .bool false, .bool false, .int .i64 0, .int .i64 0, .int .u64 0, .int .u64 0, .slice none 0 0, .int .i64 0, .slice none 0 0, .slice none 0 0, .slice none 0 0] 29)).alloc (.cells #[.int .i64 0, .bool false, .bool false, .bool false, .int .u64 0, .int .i64 0, .bool false, .bool false, .int .i64 0, .int .i64 0, .int .u64 0, .int .u64 0, .slice none 0 0, .int .i64 0, .slice none 0 0, .slice none 0 0, .slice none 0 0] 29)) = We at k1 k2 hHeld ⊢
                      refine wpAnyH_ready (rs := [10]) (by kernel_rfl) (by simp) (cons_l rfl (by rfl) (fun K hK => ?_) .nil)
                      refine wp_store_row 29 (.tmp 19) (.tmp 96) rfl Wd.heap.size d.cells.toArray rfl rfl 29 #[.int .i64 0, .bool false, .bool false, .bool false, .int .u64 0, .int .i64 0, .bool false, .bool false, .int .i64 0, .int .i64 0, .int .u64 0, .int .u64 0, .slice none 0 0, .int .i64 0, .slice none 0 0, .slice none 0 0, .slice none 0 0] k1 hiOh.out rfl oneA.out ?_
                      refine hK.out _ _ (hHeld.setRow (by omega) _) (fun hHeld => ?_)
                      clear hK K
                      simp only [Act.put, List.setIfInBounds_toArray, List.set_cons_zero, List.set_cons_succ]
                      have j1 := setRow_heap We Wd.heap.size _ d.cells.toArray _ _ k1
                      have j2 := (setRow_other We Wd.heap.size (Wd.heap.size + 1) d.cells.toArray (by omega)).trans k2
                      generalize We.setRow Wd.heap.size d.cells.toArray = Wf at j1 j2 hHeld ⊢
                      clear k1 k2
                      refine wpAnyH_ready (rs := [11]) (by kernel_rfl) (by simp) (cons_l rfl (by rfl) (fun K hK => ?_) .nil)
                      refine wp_store_row 29 (.tmp 20) (.tmp 100) rfl (Wd.heap.size + 1) d2.cells.toArray rfl rfl 29 #[.int .i64 0, .bool false, .bool false, .bool false, .int .u64 0, .int .i64 0, .bool false, .bool false, .int .i64 0, .int .i64 0, .int .u64 0, .int .u64 0, .slice none 0 0, .int .i64 0, .slice none 0 0, .slice none 0 0, .slice none 0 0] j2 hiOh.out rfl oneB.out ?_
                      refine hK.out _ _ (hHeld.setRow (by omega) _) (fun hHeld => ?_)
                      clear hK K
                      simp only [Act.put, List.setIfInBounds_toArray, List.set_cons_zero, List.set_cons_succ]
                      have i1 := (setRow_other Wf (Wd.heap.size + 1) Wd.heap.size d2.cells.toArray (by omega)).trans j1
                      have i2 := setRow_heap Wf (Wd.heap.size + 1) _ d2.cells.toArray _ _ j2
                      generalize Wf.setRow (Wd.heap.size + 1) d2.cells.toArray = Wg at i1 i2 hHeld ⊢
                      clear j1 j2
                      refine wpAnyH_done (by kernel_rfl) ?_ _
                      go_wp2_with fail
                      go_meet
                      exact ⟨_, _, rfl, rfl, i1, i2, hHeld⟩
                    · go_simp
                      refine hK.out _ _ (hHeld.alloc _) (fun hHeld => ?_)
                      clear hK K
                      simp only [Act.put, List.setIfInBounds_toArray, List.set_cons_zero, List.set_cons_succ]
                      refine wpAnyH_ready (rs := [8]) (by kernel_rfl) (by simp) (cons_l rfl (by rfl) (fun K hK => ?_) .nil)
                      go_simp
                      refine hK.out _ _ (hHeld.alloc _) (fun hHeld => ?_)
                      clear hK K
                      simp only [Act.put, List.setIfInBounds_toArray, List.set_cons_zero, List.set_cons_succ]
                      have k1 : ((Wd.alloc (.cells #[.int .i64 0, .bool false, .bool false, .bool false, .int .u64 0, .int .i64 0, .bool false, .bool false, .int .i64 0, .int .i64 0, .int .u64 0, .int .u64 0, .slice none 0 0, .int .i64 0, .slice none 0 0, .slice none 0 0, .slice none 0 0] 29)).alloc (.cells #[.int .i64 0, .bool false, .bool false, .bool false, .int .u64 0, .int .i64 0, .bool false, .bool false, .int .i64 0, .int .i64 0, .int .u64 0, .int .u64 0, .slice none 0 0, .int .i64 0, .slice none 0 0, .slice none 0 0, .slice none 0 0] 29)).heap[Wd.heap.size]? = some (.cells #[.int .i64 0, .bool false, .bool false, .bool false, .int .u64 0, .int .i64 0, .bool false, .bool false, .int .i64 0, .int .i64 0, .int .u64 0, .int .u64 0, .slice none 0 0, .int .i64 0, .slice none 0 0, .slice none 0 0, .slice none 0 0] 29 (0, 0)) := old_blk (new_blk _ _ rfl) _
                      have k2 : ((Wd.alloc (.cells #[.int .i64 0, .bool false, .bool false, .bool false, .int .u64 0, .int .i64 0, .bool false, .bool false, .int .i64 0, .int .i64 0, .int .u64 0, .int .u64 0, .slice none 0 0, .int .i64 0, .slice none 0 0, .slice none 0 0, .slice none 0 0] 29)).alloc (.cells #[.int .i64 0, .bool false, .bool false, .bool false, .int .u64 0, .int .i64 0, .bool false, .bool false, .int .i64 0, .int .i64 0, .int .u64 0, .int .u64 0, .slice none 0 0, .int .i64 0, .slice none 0 0, .slice none 0 0, .slice none 0 0] 29)).heap[Wd.heap.size + 1]? = some (.cells #[.int .i64 0, .bool false, .bool false, .bool false, .int .u64 0, .int .i64 0, .bool false, .bool false, .int .i64 0, .int .i64 0, .int .u64 0, .int .u64 0, .slice none 0 0, .int .i64 0, .slice none 0 0, .slice none 0 0, .slice none 0 0] 29 (0, 0)) := new_blk _ _ (by simp)
                      generalize ((Wd.alloc (.cells #[.int .i64 0, .bool false, .bool false, .bool false, .int .u64 0, .int .i64 0, .bool false, .bool false, .int .i64 0, .int .i64 0, .int .u64 0, .int .u64 0, .slice none 0 0, .int .i64 0, .slice none 0 0, .slice none 0 0, .slice none 0 0] 29)).alloc (.cells #[.int .i64 0, .bool false, .bool false, .bool false, .int .u64 0, .int .i64 0, .bool false, .bool false, .int .i64 0, .int .i64 0, .int .u64 0, .int .u64 0, .slice none 0 0, .int .i64 0, .slice none 0 0, .slice none 0 0, .slice none 0 0] 29)) = We at k1 k2 hHeld ⊢
                      refine wpAnyH_ready (rs := [10]) (by kernel_rfl) (by simp) (cons_l rfl (by rfl) (fun K hK => ?_) .nil)
                      refine wp_store_row 29 (.tmp 19) (.tmp 96) rfl (Wd.heap.size + 1) d.cells.toArray rfl rfl 29 #[.int .i64 0, .bool false, .bool false, .bool false, .int .u64 0, .int .i64 0, .bool false, .bool false, .int .i64 0, .int .i64 0, .int .u64 0, .int .u64 0, .slice none 0 0, .int .i64 0, .slice none 0 0, .slice none 0 0, .slice none 0 0] k2 hiOh.out rfl oneA.out ?_
                      refine hK.out _ _ (hHeld.setRow (by omega) _) (fun hHeld => ?_)
                      clear hK K
                      simp only [Act.put, List.setIfInBounds_toArray, List.set_cons_zero, List.set_cons_succ]
                      have j1 := setRow_heap We (Wd.heap.size + 1) _ d.cells.toArray _ _ k2
                      have j2 := (setRow_other We (Wd.heap.size + 1) Wd.heap.size d.cells.toArray (by omega)).trans k1
                      generalize We.setRow (Wd.heap.size + 1) d.cells.toArray = Wf at j1 j2 hHeld ⊢
                      clear k1 k2
                      refine wpAnyH_ready (rs := [11]) (by kernel_rfl) (by simp) (cons_l rfl (by rfl) (fun K hK => ?_) .nil)
                      refine wp_store_row 29 (.tmp 20) (.tmp 100) rfl Wd.heap.size d2.cells.toArray rfl rfl 29 #[.int .i64 0, .bool false, .bool false, .bool false, .int .u64 0, .int .i64 0, .bool false, .bool false, .int .i64 0, .int .i64 0, .int .u64 0, .int .u64 0, .slice none 0 0, .int .i64 0, .slice none 0 0, .slice none 0 0, .slice none 0 0] j2 hiOh.out rfl oneB.out ?_
                      refine hK.out _ _ (hHeld.setRow (by omega) _) (fun hHeld => ?_)
                      clear hK K
                      simp only [Act.put, List.setIfInBounds_toArray, List.set_cons_zero, List.set_cons_succ]
                      have i1 := (setRow_other Wf Wd.heap.size (Wd.heap.size + 1) d2.cells.toArray (by omega)).trans j1
                      have i2 := setRow_heap Wf Wd.heap.size _ d2.cells.toArray _ _ j2
                      generalize Wf.setRow Wd.heap.size d2.cells.toArray = Wg at i1 i2 hHeld ⊢
                      clear j1 j2
                      refine wpAnyH_done (by kernel_rfl) ?_ _
                      go_wp2_with fail
                      go_meet
                      exact ⟨_, _, rfl, rfl, i1, i2, hHeld⟩
                  case rest =>
                    obtain ⟨g1, g2, rfl, rfl, b1, b2, n7⟩ := hcut
                    have a3 : wc.cell? ⟨g1, 3, none⟩ = some (.bool d.fence) := cell_of_row _ _ 3 _ _ _ b1
                    have a1 : wc.cell? ⟨g1, 1, none⟩ = some (.bool d.load) := cell_of_row _ _ 1 _ _ _ b1
                    have a2 : wc.cell? ⟨g1, 2, none⟩ = some (.bool d.store) := cell_of_row _ _ 2 _ _ _ b1
                    have c3 : wc.cell? ⟨g2, 3, none⟩ = some (.bool d2.fence) := cell_of_row _ _ 3 _ _ _ b2
                    have c1 : wc.cell? ⟨g2, 1, none⟩ = some (.bool d2.load) := cell_of_row _ _ 1 _ _ _ b2
                    have c2 : wc.cell? ⟨g2, 2, none⟩ = some (.bool d2.store) := cell_of_row _ _ 2 _ _ _ b2
                    have hR8 := Lib.hid (hRu.out wc n7 (q : Int) ((m : Int) + 1) (by omega) (by omega))
                    have hAl := hAll.out
                    unfold movesS at hAl
                    have hAh := Lib.hid hAl
                    have n7h := Lib.hid n7
                    clear hAl hAll hA hB b1 b2 hRu hRL hRM hxw NWl NWs oneA oneB hN3 n7
                    generalize (rulesS (L.take k ++ fenceD 3 3 :: L.drop k) (q : Int) ((m : Int) + 1)).headD 0 = r at hR8 hAh
                    generalize d.fence = x1 at *
                    generalize d.load = x2 at *
                    generalize d.store = x3 at *
                    generalize d2.fence = y1 at *
                    generalize d2.load = y2 at *
                    generalize d2.store = y3 at *
                    have hend : ∀ w8, Nb wc w8 → Nb W9 w8 := fun w8 h => n7h.out.trans h
                    have hendh := Lib.hid hend
                    clear hend
                    have hfin := Lib.hid (show (!x1 && (x2 || x3) && (!y1 && (y2 || y3))) = true → (r == 0) = false from fun h => by simpa using hAh.out h)
                    clear hAh
                    cases x1 with
                    | true =>
                      go_wp2_with fail
                      go_roundw
                      case rel => exact ⟨m + 1, by omega, hlt2, by simp, hendh.out _ (Nb.refl _)⟩
                      case measure => simp [intOf]; omega
                    | false =>
                      cases y1 with
                      | true =>
                        go_wp2_with fail
                        go_roundw
                        case rel => exact ⟨m + 1, by omega, hlt2, by simp, hendh.out _ (Nb.refl _)⟩
                        case measure => simp [intOf]; omega
                      | false =>
                        cases x2 with
                        | true =>
                          cases y2 with
                          | true =>
                            have hr0 := hfin.out (by simp)
                            go_wp2_with (go_at_call 10; refine hR8.out.mono ?_; rintro e w8 ⟨rfl, k8⟩)
                            go_roundw
                            case rel => exact ⟨m + 1, by omega, hlt2, by simp, hendh.out _ k8⟩
                            case measure => simp [intOf]; omega
                          | false =>
                            cases y3 with
                            | true =>
                              have hr0 := hfin.out (by simp)
                              go_wp2_with (go_at_call 10; refine hR8.out.mono ?_; rintro e w8 ⟨rfl, k8⟩)
                              go_roundw
                              case rel => exact ⟨m + 1, by omega, hlt2, by simp, hendh.out _ k8⟩
                              case measure => simp [intOf]; omega
                            | false =>
                              go_wp2_with fail
                              go_roundw
                              case rel => exact ⟨m + 1, by omega, hlt2, by simp, hendh.out _ (Nb.refl _)⟩
                              case measure => simp [intOf]; omega
                        | false =>
                          cases x3 with
                          | true =>
                            cases y2 with
                            | true =>
                              have hr0 := hfin.out (by simp)
                              go_wp2_with (go_at_call 10; refine hR8.out.mono ?_; rintro e w8 ⟨rfl, k8⟩)
                              go_roundw
                              case rel => exact ⟨m + 1, by omega, hlt2, by simp, hendh.out _ k8⟩
                              case measure => simp [intOf]; omega
                            | false =>
                              cases y3 with
                              | true =>
                                have hr0 := hfin.out (by simp)
                                go_wp2_with (go_at_call 10; refine hR8.out.mono ?_; rintro e w8 ⟨rfl, k8⟩)
                                go_roundw
                                case rel => exact ⟨m + 1, by omega, hlt2, by simp, hendh.out _ k8⟩
                                case measure => simp [intOf]; omega
                              | false =>
                                go_wp2_with fail
                                go_roundw
                                case rel => exact ⟨m + 1, by omega, hlt2, by simp, hendh.out _ (Nb.refl _)⟩
                                case measure => simp [intOf]; omega
                          | false =>
                            go_wp2_with fail
                            go_roundw
                            case rel => exact ⟨m + 1, by omega, hlt2, by simp, hendh.out _ (Nb.refl _)⟩
                            case measure => simp [intOf]; omega
            · obtain rfl : m = n := by omega
              go_wp2_with fail
              go_roundw
              case rel => exact ⟨q + 1, hlt, by simp, hN2⟩
              case measure => simp [intOf, e1]; omega
        · obtain rfl : q = k := by omega
          go_wp2_with (go_at_call 7; refine (lives_any _).mono ?_; rintro e wd ⟨rfl, kd⟩)
          go_ret
          exact ⟨rfl, N0h.out.trans (hN.trans kd)⟩
end Go.Proofs.Ytpnafbcekihoeaa.orderMore
