/-
  Proved here: the walk of the statement on one fence more: no operations. Conditions: as stated.
-/
import Derived.Test.YtpnafbcekihoeaaZf
namespace Go.Proofs.Ytpnafbcekihoeaa.orderMore
open Go.ChangeShapes Go.WideShapes Go.ChangeAt Go.RowKit
set_option linter.unusedVariables false
set_option linter.unusedSimpArgs false
set_option maxRecDepth 100000 in
set_option maxHeartbeats 20000000 in
theorem none_ (p : Option Addr) (c : Nat) (at_ pred succ : Int) (w : World) (ha : InR at_) (hpa : p = none → c = 0)
    (H1 : Hid (∀ w1, Nb w w1 → Calls Try.prog 6 #[.slice p 0 c] w1 fun e w' => e = .returned (.bool true) ∧ Nb w1 w')) :
    Calls Try.prog 3 #[.slice p 0 c, .int .i64 at_, .int .i64 pred, .int .i64 succ] w fun e w' => e = .returned (.bool true) ∧ Nb w w' := by
  obtain ⟨i0, hi0, hz0, hz1, hz2⟩ := info_parts info_op
  have r0 : Nb w w := Nb.refl w
  obtain ⟨X, hX⟩ : ∃ X, IntKind.u64.wrap at_ = X := ⟨_, rfl⟩
  have hXb : 0 ≤ X ∧ X < 18446744073709551616 := by rw [← hX, IntKind.wrap_u64]; omega
  have hk : X % 1 = 0 := by omega
  obtain ⟨hX0, hX1⟩ := hXb
  have hmx : (200 : Nat) ≤ maxLen := by decide
  go_enter Try.func3, Try.ntmps3
  go_upto_region 4 with (first
    | (go_at_call 6; (with_reducible refine (H1.out _ r0).mono ?_); rintro e w1 ⟨rfl, k1⟩))
  clear H1 hX0 hX1 hk hX
  obtain ⟨cF, hF⟩ : ∃ c : Array Value, (fenceD pred succ).cells.toArray = c := ⟨_, rfl⟩
  have fF := Lib.hid (show Try.prog.built 29 [(0, .int .i64 (-1)), (3, .bool true), (8, .int .i64 pred), (9, .int .i64 succ), (13, .int .i64 (-1))] = some cF by rw [← hF]; kernel_rfl)
  have sF : cF.size = 17 := by rw [← hF]; rfl
  have oF := Lib.hid (show cF.all (·.oneCell') = true by rw [← hF]; kernel_rfl)
  have hi : (Try.prog.info? 29).map (·.size) = some 17 := by kernel_rfl
  have iF := Lib.hid (hi.trans (congrArg some sF.symm))
  have zF := Lib.hid (show (17 : Nat) = cF.size from sF.symm)
  have hF' := Lib.hid hF
  have hbs := Lib.hid (fun W => bs1 sF W)
  have sFh := Lib.hid sF
  clear hF sF hi
  go_upto_region 5 with (first
    | (refine wpList_built rfl 29 _ rfl [(0, .int .i64 (-1)), (3, .bool true), (8, .int .i64 pred), (9, .int .i64 succ), (13, .int .i64 (-1))] (by kernel_rfl) cF fF.out ?_)
    | (refine wpList_store_new rfl 29 (.tmp 10) (.tmp 35) rfl _ cF _ rfl rfl iF.out zF.out oF.out ?_))
  obtain ⟨W2, hW⟩ : ∃ W2, w1.alloc (.cells cF 29) = W2 := ⟨_, rfl⟩
  have n2 : Nb w W2 := by rw [← hW]; exact k1.alloc _
  have bF : W2.heap[w1.heap.size]? = some (.cells cF 29 (0, 0)) := by rw [← hW]; exact new_blk _ _ rfl
  rw [hW]
  clear hW fF
  obtain ⟨v0, v1, v2, v3, v4, v5, v6, v7, v8, v9, v10, v11, v12, v13, v14, v15, v16, hcF⟩ := arr17 sFh.out
  subst hcF
  have hiO := Lib.hid (show (Try.prog.info? 29).map (·.size) = some 17 by kernel_rfl)
  have rF := Lib.hid (show W2.rangeAt w1.heap.size 0 [v0, v1, v2, v3, v4, v5, v6, v7, v8, v9, v10, v11, v12, v13, v14, v15, v16] from rng17 bF)
  have hon := Lib.hid (show ∀ u ∈ (#[v0, v1, v2, v3, v4, v5, v6, v7, v8, v9, v10, v11, v12, v13, v14, v15, v16]).toList, u.oneCell' = true from fun u hu => Array.all_eq_true_iff_forall_mem.1 oF.out u (by simpa using hu))
  have hFl := Lib.hid (show (fenceD pred succ).cells = (#[v0, v1, v2, v3, v4, v5, v6, v7, v8, v9, v10, v11, v12, v13, v14, v15, v16]).toList by rw [← hF'.out])
  have hz2' := n2.size
  simp only [Act.put]
  go_cut [11] (fun s11 wx => Nb W2 wx)
  case first =>
    cases p with
    | none =>
      obtain rfl : c = 0 := hpa rfl
      refine wp_region_held_drew (S := fun w' => Nb W2 w') (by kernel_rfl) (Nb.refl W2).drew1 (fun hHeld => ?_)
      change wpAnyH _ _ _ _ _ 13 (List.toArray [false, false, false, false, false, false, false, false, false, false, false, false, false]) _ _
      refine take_l (i := 1) (v := .slice none 0 0) rfl (by kernel_rfl) (by kernel_rfl) (by kernel_rfl) (fun _ _ _ h => h) (.inl ⟨by rfl, by intro w' hw; go_simp⟩) hHeld ?_
      simp only [Act.put, List.setIfInBounds_toArray, List.set_cons_zero, List.set_cons_succ]
      refine take_l (i := 2) (v := .int .i64 0) rfl (by kernel_rfl) (by kernel_rfl) (by kernel_rfl) (fun _ _ _ h => h) (.inl ⟨by rfl, by intro w' hw; go_simp⟩) hHeld ?_
      simp only [Act.put, List.setIfInBounds_toArray, List.set_cons_zero, List.set_cons_succ]
      refine take_l (i := 3) (v := .slice none 0 0) rfl (by kernel_rfl) (by kernel_rfl) (by kernel_rfl) (fun _ _ _ h => h) (.inl ⟨by rfl, by intro w' hw; go_simp⟩) hHeld ?_
      simp only [Act.put, List.setIfInBounds_toArray, List.set_cons_zero, List.set_cons_succ]
      refine take_l (i := 5) (v := .agg ([v0, v1, v2, v3, v4, v5, v6, v7, v8, v9, v10, v11, v12, v13, v14, v15, v16] : List Value).toArray) rfl (by kernel_rfl) (by kernel_rfl) (by kernel_rfl) (fun _ _ _ h => h) (yieldsIf_load_mid (by rfl) 29 (.tmp 10) rfl w1.heap.size 0 rfl [v0, v1, v2, v3, v4, v5, v6, v7, v8, v9, v10, v11, v12, v13, v14, v15, v16] _ (fun w' hw => hw.range rF.out) Try.underlying29 rfl hiO.out) hHeld ?_
      simp only [Act.put, List.setIfInBounds_toArray, List.set_cons_zero, List.set_cons_succ]
      refine take_l (i := 8) (v := .slice none 0 0) rfl (by kernel_rfl) (by kernel_rfl) (by kernel_rfl) (fun _ _ _ h => h) (.inl ⟨by rfl, by intro w' hw; go_simp⟩) hHeld ?_
      simp only [Act.put, List.setIfInBounds_toArray, List.set_cons_zero, List.set_cons_succ]
      refine take_l (i := 9) (v := .int .i64 0) rfl (by kernel_rfl) (by kernel_rfl) (by kernel_rfl) (fun _ _ _ h => h) (.inl ⟨by rfl, by intro w' hw; go_simp⟩) hHeld ?_
      simp only [Act.put, List.setIfInBounds_toArray, List.set_cons_zero, List.set_cons_succ]
      refine take_l (i := 10) (v := .slice none 0 0) rfl (by kernel_rfl) (by kernel_rfl) (by kernel_rfl) (fun _ _ _ h => h) (.inl ⟨by rfl, by intro w' hw; go_simp⟩) hHeld ?_
      simp only [Act.put, List.setIfInBounds_toArray, List.set_cons_zero, List.set_cons_succ]
      generalize W2.drew = Wd at hHeld ⊢
      have hb0 := hHeld.size
      refine wpAnyH_ready (rs := [0, 6]) (by kernel_rfl) (by simp) (cons_l rfl (by rfl) (fun K hK => ?_) (cons_l rfl (by rfl) (fun K hK => ?_) .nil))
      · go_simp
        refine hK.out _ _ (hHeld.alloc _) (fun hHeld => ?_)
        clear hK K
        simp only [Act.put, List.setIfInBounds_toArray, List.set_cons_zero, List.set_cons_succ]
        have o0 : (Wd.alloc (.cells #[] 29)).ownsRow W2.heap.size 29 17 (.slice (some ⟨Wd.heap.size, 0, none⟩) 0 0) 0 [] := own0 (new_blk _ _ rfl) (Nat.le_trans hb0 (by omega))
        have ltWe : Wd.heap.size < (Wd.alloc (.cells #[] 29)).heap.size := by simp
        generalize Wd.alloc (.cells #[] 29) = We at o0 ltWe hHeld ⊢
        refine wpAnyH_ready (rs := [4, 6]) (by kernel_rfl) (by simp) (cons_l rfl (by rfl) (fun K hK => ?_) (cons_l rfl (by rfl) (fun K hK => ?_) .nil))
        · refine wp_app (.tmp 36) (.tmp 39) 22 rfl W2.heap.size 29 i0 _ 17 176 Try.underlying22 hi0 hz0 hz1 hz2 rfl (by decide) _ 0 [] rfl o0 _ 0 [] rfl (.inl ⟨rfl, rfl, rfl⟩) (by omega) (by omega) hHeld.size ?_
          intro u1 Wf o1 g1
          have m1 : Nb W2 Wf := hHeld.grown g1 (own_ge o0)
          refine hK.out _ _ m1 (fun hHeld => ?_)
          clear hK K
          simp only [Act.put, List.setIfInBounds_toArray, List.set_cons_zero, List.set_cons_succ]
          refine wpAnyH_ready (rs := [6]) (by kernel_rfl) (by simp) (cons_l rfl (by rfl) (fun K hK => ?_) .nil)
          refine wp_bs 22 1 #[(0, (.tmp 41))] rfl #[(0, .agg #[v0, v1, v2, v3, v4, v5, v6, v7, v8, v9, v10, v11, v12, v13, v14, v15, v16])] (by kernel_rfl) _ (hbs.out _) ?_
          refine hK.out _ _ (hHeld.alloc _) (fun hHeld => ?_)
          clear hK K
          simp only [Act.put, List.setIfInBounds_toArray, List.set_cons_zero, List.set_cons_succ]
          have q0 : (Wf.alloc (.cells #[v0, v1, v2, v3, v4, v5, v6, v7, v8, v9, v10, v11, v12, v13, v14, v15, v16] 29)).heap[Wf.heap.size]? = some (.cells #[v0, v1, v2, v3, v4, v5, v6, v7, v8, v9, v10, v11, v12, v13, v14, v15, v16] 29 (0, 0)) := new_blk _ _ rfl
          replace o1 := o1.alloc (.cells #[v0, v1, v2, v3, v4, v5, v6, v7, v8, v9, v10, v11, v12, v13, v14, v15, v16] 29)
          generalize Wf.alloc (.cells #[v0, v1, v2, v3, v4, v5, v6, v7, v8, v9, v10, v11, v12, v13, v14, v15, v16] 29) = Wg at q0 o1 hHeld ⊢
          refine wpAnyH_ready (rs := [7]) (by kernel_rfl) (by simp) (cons_l rfl (by rfl) (fun K hK => ?_) .nil)
          refine wp_app (.tmp 40) (.tmp 42) 22 rfl W2.heap.size 29 i0 _ 17 176 Try.underlying22 hi0 hz0 hz1 hz2 rfl (by decide) _ (0 + 0) ([] ++ []) rfl o1 _ 1 (#[v0, v1, v2, v3, v4, v5, v6, v7, v8, v9, v10, v11, v12, v13, v14, v15, v16]).toList rfl (src_one q0 rfl hon.out) (by omega) (by omega) hHeld.size ?_
          intro u2 Wy o2 g2
          have m2 : Nb W2 Wy := hHeld.grown g2 (own_ge o1)
          refine hK.out _ _ m2 (fun hHeld => ?_)
          clear hK K
          simp only [Act.put, List.setIfInBounds_toArray, List.set_cons_zero, List.set_cons_succ]
          refine wpAnyH_ready (rs := [11]) (by kernel_rfl) (by simp) (cons_l rfl (by rfl) (fun K hK => ?_) .nil)
          refine wp_app (.tmp 43) (.tmp 46) 22 rfl W2.heap.size 29 i0 _ 17 176 Try.underlying22 hi0 hz0 hz1 hz2 rfl (by decide) _ (0 + 0 + 1) ([] ++ [] ++ (#[v0, v1, v2, v3, v4, v5, v6, v7, v8, v9, v10, v11, v12, v13, v14, v15, v16]).toList) rfl o2 _ 0 [] rfl (.inl ⟨rfl, rfl, rfl⟩) (by omega) (by omega) hHeld.size ?_
          intro u3 Wz o3 g3
          have m3 : Nb W2 Wz := hHeld.grown g3 (own_ge o2)
          refine hK.out _ _ m3 (fun hHeld => ?_)
          clear hK K
          simp only [Act.put, List.setIfInBounds_toArray, List.set_cons_zero, List.set_cons_succ]
          refine take_l (i := 12) (v := u3) rfl (by kernel_rfl) (by kernel_rfl) (by kernel_rfl) (fun _ _ _ h => h) (.inl ⟨by rfl, by intro w' hw; go_simp⟩) hHeld ?_
          simp only [Act.put, List.setIfInBounds_toArray, List.set_cons_zero, List.set_cons_succ]
          refine wpAnyH_done (by kernel_rfl) ?_ _
          go_wp2_with fail
          go_meet
          exact m3
        · refine wp_bs 22 1 #[(0, (.tmp 41))] rfl #[(0, .agg #[v0, v1, v2, v3, v4, v5, v6, v7, v8, v9, v10, v11, v12, v13, v14, v15, v16])] (by kernel_rfl) _ (hbs.out _) ?_
          refine hK.out _ _ (hHeld.alloc _) (fun hHeld => ?_)
          clear hK K
          simp only [Act.put, List.setIfInBounds_toArray, List.set_cons_zero, List.set_cons_succ]
          have q0 : (We.alloc (.cells #[v0, v1, v2, v3, v4, v5, v6, v7, v8, v9, v10, v11, v12, v13, v14, v15, v16] 29)).heap[We.heap.size]? = some (.cells #[v0, v1, v2, v3, v4, v5, v6, v7, v8, v9, v10, v11, v12, v13, v14, v15, v16] 29 (0, 0)) := new_blk _ _ rfl
          replace o0 := o0.alloc (.cells #[v0, v1, v2, v3, v4, v5, v6, v7, v8, v9, v10, v11, v12, v13, v14, v15, v16] 29)
          generalize We.alloc (.cells #[v0, v1, v2, v3, v4, v5, v6, v7, v8, v9, v10, v11, v12, v13, v14, v15, v16] 29) = Wg at q0 o0 hHeld ⊢
          refine wpAnyH_ready (rs := [4]) (by kernel_rfl) (by simp) (cons_l rfl (by rfl) (fun K hK => ?_) .nil)
          refine wp_app (.tmp 36) (.tmp 39) 22 rfl W2.heap.size 29 i0 _ 17 176 Try.underlying22 hi0 hz0 hz1 hz2 rfl (by decide) _ 0 [] rfl o0 _ 0 [] rfl (.inl ⟨rfl, rfl, rfl⟩) (by omega) (by omega) hHeld.size ?_
          intro u1 Wf o1 g1
          have m1 : Nb W2 Wf := hHeld.grown g1 (own_ge o0)
          refine hK.out _ _ m1 (fun hHeld => ?_)
          clear hK K
          simp only [Act.put, List.setIfInBounds_toArray, List.set_cons_zero, List.set_cons_succ]
          replace q0 := grown_blk g1 q0 (fun e => absurd (show Wd.heap.size = We.heap.size from Option.some.inj e) (by omega))
          refine wpAnyH_ready (rs := [7]) (by kernel_rfl) (by simp) (cons_l rfl (by rfl) (fun K hK => ?_) .nil)
          refine wp_app (.tmp 40) (.tmp 42) 22 rfl W2.heap.size 29 i0 _ 17 176 Try.underlying22 hi0 hz0 hz1 hz2 rfl (by decide) _ (0 + 0) ([] ++ []) rfl o1 _ 1 (#[v0, v1, v2, v3, v4, v5, v6, v7, v8, v9, v10, v11, v12, v13, v14, v15, v16]).toList rfl (src_one q0 rfl hon.out) (by omega) (by omega) hHeld.size ?_
          intro u2 Wy o2 g2
          have m2 : Nb W2 Wy := hHeld.grown g2 (own_ge o1)
          refine hK.out _ _ m2 (fun hHeld => ?_)
          clear hK K
          simp only [Act.put, List.setIfInBounds_toArray, List.set_cons_zero, List.set_cons_succ]
          refine wpAnyH_ready (rs := [11]) (by kernel_rfl) (by simp) (cons_l rfl (by rfl) (fun K hK => ?_) .nil)
          refine wp_app (.tmp 43) (.tmp 46) 22 rfl W2.heap.size 29 i0 _ 17 176 Try.underlying22 hi0 hz0 hz1 hz2 rfl (by decide) _ (0 + 0 + 1) ([] ++ [] ++ (#[v0, v1, v2, v3, v4, v5, v6, v7, v8, v9, v10, v11, v12, v13, v14, v15, v16]).toList) rfl o2 _ 0 [] rfl (.inl ⟨rfl, rfl, rfl⟩) (by omega) (by omega) hHeld.size ?_
          intro u3 Wz o3 g3
          have m3 : Nb W2 Wz := hHeld.grown g3 (own_ge o2)
          refine hK.out _ _ m3 (fun hHeld => ?_)
          clear hK K
          simp only [Act.put, List.setIfInBounds_toArray, List.set_cons_zero, List.set_cons_succ]
          refine take_l (i := 12) (v := u3) rfl (by kernel_rfl) (by kernel_rfl) (by kernel_rfl) (fun _ _ _ h => h) (.inl ⟨by rfl, by intro w' hw; go_simp⟩) hHeld ?_
          simp only [Act.put, List.setIfInBounds_toArray, List.set_cons_zero, List.set_cons_succ]
          refine wpAnyH_done (by kernel_rfl) ?_ _
          go_wp2_with fail
          go_meet
          exact m3
      · refine wp_bs 22 1 #[(0, (.tmp 41))] rfl #[(0, .agg #[v0, v1, v2, v3, v4, v5, v6, v7, v8, v9, v10, v11, v12, v13, v14, v15, v16])] (by kernel_rfl) _ (hbs.out _) ?_
        refine hK.out _ _ (hHeld.alloc _) (fun hHeld => ?_)
        clear hK K
        simp only [Act.put, List.setIfInBounds_toArray, List.set_cons_zero, List.set_cons_succ]
        have q0 : (Wd.alloc (.cells #[v0, v1, v2, v3, v4, v5, v6, v7, v8, v9, v10, v11, v12, v13, v14, v15, v16] 29)).heap[Wd.heap.size]? = some (.cells #[v0, v1, v2, v3, v4, v5, v6, v7, v8, v9, v10, v11, v12, v13, v14, v15, v16] 29 (0, 0)) := new_blk _ _ rfl
        have ltWe : Wd.heap.size < (Wd.alloc (.cells #[v0, v1, v2, v3, v4, v5, v6, v7, v8, v9, v10, v11, v12, v13, v14, v15, v16] 29)).heap.size := by simp
        generalize Wd.alloc (.cells #[v0, v1, v2, v3, v4, v5, v6, v7, v8, v9, v10, v11, v12, v13, v14, v15, v16] 29) = We at q0 ltWe hHeld ⊢
        refine wpAnyH_ready (rs := [0]) (by kernel_rfl) (by simp) (cons_l rfl (by rfl) (fun K hK => ?_) .nil)
        go_simp
        refine hK.out _ _ (hHeld.alloc _) (fun hHeld => ?_)
        clear hK K
        simp only [Act.put, List.setIfInBounds_toArray, List.set_cons_zero, List.set_cons_succ]
        have o0 : (We.alloc (.cells #[] 29)).ownsRow W2.heap.size 29 17 (.slice (some ⟨We.heap.size, 0, none⟩) 0 0) 0 [] := own0 (new_blk _ _ rfl) (Nat.le_trans hb0 (by omega))
        have ltWg : We.heap.size < (We.alloc (.cells #[] 29)).heap.size := by simp
        replace q0 := old_blk q0 (.cells #[] 29)
        generalize We.alloc (.cells #[] 29) = Wg at o0 ltWg q0 hHeld ⊢
        refine wpAnyH_ready (rs := [4]) (by kernel_rfl) (by simp) (cons_l rfl (by rfl) (fun K hK => ?_) .nil)
        refine wp_app (.tmp 36) (.tmp 39) 22 rfl W2.heap.size 29 i0 _ 17 176 Try.underlying22 hi0 hz0 hz1 hz2 rfl (by decide) _ 0 [] rfl o0 _ 0 [] rfl (.inl ⟨rfl, rfl, rfl⟩) (by omega) (by omega) hHeld.size ?_
        intro u1 Wf o1 g1
        have m1 : Nb W2 Wf := hHeld.grown g1 (own_ge o0)
        refine hK.out _ _ m1 (fun hHeld => ?_)
        clear hK K
        simp only [Act.put, List.setIfInBounds_toArray, List.set_cons_zero, List.set_cons_succ]
        replace q0 := grown_blk g1 q0 (fun e => absurd (show We.heap.size = Wd.heap.size from Option.some.inj e) (by omega))
        refine wpAnyH_ready (rs := [7]) (by kernel_rfl) (by simp) (cons_l rfl (by rfl) (fun K hK => ?_) .nil)
        refine wp_app (.tmp 40) (.tmp 42) 22 rfl W2.heap.size 29 i0 _ 17 176 Try.underlying22 hi0 hz0 hz1 hz2 rfl (by decide) _ (0 + 0) ([] ++ []) rfl o1 _ 1 (#[v0, v1, v2, v3, v4, v5, v6, v7, v8, v9, v10, v11, v12, v13, v14, v15, v16]).toList rfl (src_one q0 rfl hon.out) (by omega) (by omega) hHeld.size ?_
        intro u2 Wy o2 g2
        have m2 : Nb W2 Wy := hHeld.grown g2 (own_ge o1)
        refine hK.out _ _ m2 (fun hHeld => ?_)
        clear hK K
        simp only [Act.put, List.setIfInBounds_toArray, List.set_cons_zero, List.set_cons_succ]
        refine wpAnyH_ready (rs := [11]) (by kernel_rfl) (by simp) (cons_l rfl (by rfl) (fun K hK => ?_) .nil)
        refine wp_app (.tmp 43) (.tmp 46) 22 rfl W2.heap.size 29 i0 _ 17 176 Try.underlying22 hi0 hz0 hz1 hz2 rfl (by decide) _ (0 + 0 + 1) ([] ++ [] ++ (#[v0, v1, v2, v3, v4, v5, v6, v7, v8, v9, v10, v11, v12, v13, v14, v15, v16]).toList) rfl o2 _ 0 [] rfl (.inl ⟨rfl, rfl, rfl⟩) (by omega) (by omega) hHeld.size ?_
        intro u3 Wz o3 g3
        have m3 : Nb W2 Wz := hHeld.grown g3 (own_ge o2)
        refine hK.out _ _ m3 (fun hHeld => ?_)
        clear hK K
        simp only [Act.put, List.setIfInBounds_toArray, List.set_cons_zero, List.set_cons_succ]
        refine take_l (i := 12) (v := u3) rfl (by kernel_rfl) (by kernel_rfl) (by kernel_rfl) (fun _ _ _ h => h) (.inl ⟨by rfl, by intro w' hw; go_simp⟩) hHeld ?_
        simp only [Act.put, List.setIfInBounds_toArray, List.set_cons_zero, List.set_cons_succ]
        refine wpAnyH_done (by kernel_rfl) ?_ _
        go_wp2_with fail
        go_meet
        exact m3
    | some a =>
      refine wp_region_held_drew (S := fun w' => Nb W2 w') (by kernel_rfl) (Nb.refl W2).drew1 (fun hHeld => ?_)
      change wpAnyH _ _ _ _ _ 13 (List.toArray [false, false, false, false, false, false, false, false, false, false, false, false, false]) _ _
      refine take_l (i := 1) (v := .slice (some a) 0 c) rfl (by kernel_rfl) (by kernel_rfl) (by kernel_rfl) (fun _ _ _ h => h) (.inl ⟨by rfl, by intro w' hw; go_simp⟩) hHeld ?_
      simp only [Act.put, List.setIfInBounds_toArray, List.set_cons_zero, List.set_cons_succ]
      refine take_l (i := 2) (v := .int .i64 0) rfl (by kernel_rfl) (by kernel_rfl) (by kernel_rfl) (fun _ _ _ h => h) (.inl ⟨by rfl, by intro w' hw; go_simp⟩) hHeld ?_
      simp only [Act.put, List.setIfInBounds_toArray, List.set_cons_zero, List.set_cons_succ]
      refine take_l (i := 3) (v := .slice (some a) 0 c) rfl (by kernel_rfl) (by kernel_rfl) (by kernel_rfl) (fun _ _ _ h => h) (.inl ⟨by rfl, by intro w' hw; go_simp⟩) hHeld ?_
      simp only [Act.put, List.setIfInBounds_toArray, List.set_cons_zero, List.set_cons_succ]
      refine take_l (i := 5) (v := .agg ([v0, v1, v2, v3, v4, v5, v6, v7, v8, v9, v10, v11, v12, v13, v14, v15, v16] : List Value).toArray) rfl (by kernel_rfl) (by kernel_rfl) (by kernel_rfl) (fun _ _ _ h => h) (yieldsIf_load_mid (by rfl) 29 (.tmp 10) rfl w1.heap.size 0 rfl [v0, v1, v2, v3, v4, v5, v6, v7, v8, v9, v10, v11, v12, v13, v14, v15, v16] _ (fun w' hw => hw.range rF.out) Try.underlying29 rfl hiO.out) hHeld ?_
      simp only [Act.put, List.setIfInBounds_toArray, List.set_cons_zero, List.set_cons_succ]
      refine take_l (i := 8) (v := .slice (some a) 0 c) rfl (by kernel_rfl) (by kernel_rfl) (by kernel_rfl) (fun _ _ _ h => h) (.inl ⟨by rfl, by intro w' hw; go_simp⟩) hHeld ?_
      simp only [Act.put, List.setIfInBounds_toArray, List.set_cons_zero, List.set_cons_succ]
      refine take_l (i := 9) (v := .int .i64 0) rfl (by kernel_rfl) (by kernel_rfl) (by kernel_rfl) (fun _ _ _ h => h) (.inl ⟨by rfl, by intro w' hw; go_simp⟩) hHeld ?_
      simp only [Act.put, List.setIfInBounds_toArray, List.set_cons_zero, List.set_cons_succ]
      refine take_l (i := 10) (v := .slice (some a) 0 c) rfl (by kernel_rfl) (by kernel_rfl) (by kernel_rfl) (fun _ _ _ h => h) (.inl ⟨by rfl, by intro w' hw; go_simp⟩) hHeld ?_
      simp only [Act.put, List.setIfInBounds_toArray, List.set_cons_zero, List.set_cons_succ]
      generalize W2.drew = Wd at hHeld ⊢
      have hb0 := hHeld.size
      refine wpAnyH_ready (rs := [0, 6]) (by kernel_rfl) (by simp) (cons_l rfl (by rfl) (fun K hK => ?_) (cons_l rfl (by rfl) (fun K hK => ?_) .nil))
      · go_simp
        refine hK.out _ _ (hHeld.alloc _) (fun hHeld => ?_)
        clear hK K
        simp only [Act.put, List.setIfInBounds_toArray, List.set_cons_zero, List.set_cons_succ]
        have o0 : (Wd.alloc (.cells #[] 29)).ownsRow W2.heap.size 29 17 (.slice (some ⟨Wd.heap.size, 0, none⟩) 0 0) 0 [] := own0 (new_blk _ _ rfl) (Nat.le_trans hb0 (by omega))
        have ltWe : Wd.heap.size < (Wd.alloc (.cells #[] 29)).heap.size := by simp
        generalize Wd.alloc (.cells #[] 29) = We at o0 ltWe hHeld ⊢
        refine wpAnyH_ready (rs := [4, 6]) (by kernel_rfl) (by simp) (cons_l rfl (by rfl) (fun K hK => ?_) (cons_l rfl (by rfl) (fun K hK => ?_) .nil))
        · refine wp_app (.tmp 36) (.tmp 39) 22 rfl W2.heap.size 29 i0 _ 17 176 Try.underlying22 hi0 hz0 hz1 hz2 rfl (by decide) _ 0 [] rfl o0 _ 0 [] rfl (src_zero _ _ _) (by omega) (by omega) hHeld.size ?_
          intro u1 Wf o1 g1
          have m1 : Nb W2 Wf := hHeld.grown g1 (own_ge o0)
          refine hK.out _ _ m1 (fun hHeld => ?_)
          clear hK K
          simp only [Act.put, List.setIfInBounds_toArray, List.set_cons_zero, List.set_cons_succ]
          refine wpAnyH_ready (rs := [6]) (by kernel_rfl) (by simp) (cons_l rfl (by rfl) (fun K hK => ?_) .nil)
          refine wp_bs 22 1 #[(0, (.tmp 41))] rfl #[(0, .agg #[v0, v1, v2, v3, v4, v5, v6, v7, v8, v9, v10, v11, v12, v13, v14, v15, v16])] (by kernel_rfl) _ (hbs.out _) ?_
          refine hK.out _ _ (hHeld.alloc _) (fun hHeld => ?_)
          clear hK K
          simp only [Act.put, List.setIfInBounds_toArray, List.set_cons_zero, List.set_cons_succ]
          have q0 : (Wf.alloc (.cells #[v0, v1, v2, v3, v4, v5, v6, v7, v8, v9, v10, v11, v12, v13, v14, v15, v16] 29)).heap[Wf.heap.size]? = some (.cells #[v0, v1, v2, v3, v4, v5, v6, v7, v8, v9, v10, v11, v12, v13, v14, v15, v16] 29 (0, 0)) := new_blk _ _ rfl
          replace o1 := o1.alloc (.cells #[v0, v1, v2, v3, v4, v5, v6, v7, v8, v9, v10, v11, v12, v13, v14, v15, v16] 29)
          generalize Wf.alloc (.cells #[v0, v1, v2, v3, v4, v5, v6, v7, v8, v9, v10, v11, v12, v13, v14, v15, v16] 29) = Wg at q0 o1 hHeld ⊢
          refine wpAnyH_ready (rs := [7]) (by kernel_rfl) (by simp) (cons_l rfl (by rfl) (fun K hK => ?_) .nil)
          refine wp_app (.tmp 40) (.tmp 42) 22 rfl W2.heap.size 29 i0 _ 17 176 Try.underlying22 hi0 hz0 hz1 hz2 rfl (by decide) _ (0 + 0) ([] ++ []) rfl o1 _ 1 (#[v0, v1, v2, v3, v4, v5, v6, v7, v8, v9, v10, v11, v12, v13, v14, v15, v16]).toList rfl (src_one q0 rfl hon.out) (by omega) (by omega) hHeld.size ?_
          intro u2 Wy o2 g2
          have m2 : Nb W2 Wy := hHeld.grown g2 (own_ge o1)
          refine hK.out _ _ m2 (fun hHeld => ?_)
          clear hK K
          simp only [Act.put, List.setIfInBounds_toArray, List.set_cons_zero, List.set_cons_succ]
          refine wpAnyH_ready (rs := [11]) (by kernel_rfl) (by simp) (cons_l rfl (by rfl) (fun K hK => ?_) .nil)
          refine wp_app (.tmp 43) (.tmp 46) 22 rfl W2.heap.size 29 i0 _ 17 176 Try.underlying22 hi0 hz0 hz1 hz2 rfl (by decide) _ (0 + 0 + 1) ([] ++ [] ++ (#[v0, v1, v2, v3, v4, v5, v6, v7, v8, v9, v10, v11, v12, v13, v14, v15, v16]).toList) rfl o2 _ 0 [] rfl (src_zero _ _ _) (by omega) (by omega) hHeld.size ?_
          intro u3 Wz o3 g3
          have m3 : Nb W2 Wz := hHeld.grown g3 (own_ge o2)
          refine hK.out _ _ m3 (fun hHeld => ?_)
          clear hK K
          simp only [Act.put, List.setIfInBounds_toArray, List.set_cons_zero, List.set_cons_succ]
          refine take_l (i := 12) (v := u3) rfl (by kernel_rfl) (by kernel_rfl) (by kernel_rfl) (fun _ _ _ h => h) (.inl ⟨by rfl, by intro w' hw; go_simp⟩) hHeld ?_
          simp only [Act.put, List.setIfInBounds_toArray, List.set_cons_zero, List.set_cons_succ]
          refine wpAnyH_done (by kernel_rfl) ?_ _
          go_wp2_with fail
          go_meet
          exact m3
        · refine wp_bs 22 1 #[(0, (.tmp 41))] rfl #[(0, .agg #[v0, v1, v2, v3, v4, v5, v6, v7, v8, v9, v10, v11, v12, v13, v14, v15, v16])] (by kernel_rfl) _ (hbs.out _) ?_
          refine hK.out _ _ (hHeld.alloc _) (fun hHeld => ?_)
          clear hK K
          simp only [Act.put, List.setIfInBounds_toArray, List.set_cons_zero, List.set_cons_succ]
          have q0 : (We.alloc (.cells #[v0, v1, v2, v3, v4, v5, v6, v7, v8, v9, v10, v11, v12, v13, v14, v15, v16] 29)).heap[We.heap.size]? = some (.cells #[v0, v1, v2, v3, v4, v5, v6, v7, v8, v9, v10, v11, v12, v13, v14, v15, v16] 29 (0, 0)) := new_blk _ _ rfl
          replace o0 := o0.alloc (.cells #[v0, v1, v2, v3, v4, v5, v6, v7, v8, v9, v10, v11, v12, v13, v14, v15, v16] 29)
          generalize We.alloc (.cells #[v0, v1, v2, v3, v4, v5, v6, v7, v8, v9, v10, v11, v12, v13, v14, v15, v16] 29) = Wg at q0 o0 hHeld ⊢
          refine wpAnyH_ready (rs := [4]) (by kernel_rfl) (by simp) (cons_l rfl (by rfl) (fun K hK => ?_) .nil)
          refine wp_app (.tmp 36) (.tmp 39) 22 rfl W2.heap.size 29 i0 _ 17 176 Try.underlying22 hi0 hz0 hz1 hz2 rfl (by decide) _ 0 [] rfl o0 _ 0 [] rfl (src_zero _ _ _) (by omega) (by omega) hHeld.size ?_
          intro u1 Wf o1 g1
          have m1 : Nb W2 Wf := hHeld.grown g1 (own_ge o0)
          refine hK.out _ _ m1 (fun hHeld => ?_)
          clear hK K
          simp only [Act.put, List.setIfInBounds_toArray, List.set_cons_zero, List.set_cons_succ]
          replace q0 := grown_blk g1 q0 (fun e => absurd (show Wd.heap.size = We.heap.size from Option.some.inj e) (by omega))
          refine wpAnyH_ready (rs := [7]) (by kernel_rfl) (by simp) (cons_l rfl (by rfl) (fun K hK => ?_) .nil)
          refine wp_app (.tmp 40) (.tmp 42) 22 rfl W2.heap.size 29 i0 _ 17 176 Try.underlying22 hi0 hz0 hz1 hz2 rfl (by decide) _ (0 + 0) ([] ++ []) rfl o1 _ 1 (#[v0, v1, v2, v3, v4, v5, v6, v7, v8, v9, v10, v11, v12, v13, v14, v15, v16]).toList rfl (src_one q0 rfl hon.out) (by omega) (by omega) hHeld.size ?_
          intro u2 Wy o2 g2
          have m2 : Nb W2 Wy := hHeld.grown g2 (own_ge o1)
          refine hK.out _ _ m2 (fun hHeld => ?_)
          clear hK K
          simp only [Act.put, List.setIfInBounds_toArray, List.set_cons_zero, List.set_cons_succ]
          refine wpAnyH_ready (rs := [11]) (by kernel_rfl) (by simp) (cons_l rfl (by rfl) (fun K hK => ?_) .nil)
          refine wp_app (.tmp 43) (.tmp 46) 22 rfl W2.heap.size 29 i0 _ 17 176 Try.underlying22 hi0 hz0 hz1 hz2 rfl (by decide) _ (0 + 0 + 1) ([] ++ [] ++ (#[v0, v1, v2, v3, v4, v5, v6, v7, v8, v9, v10, v11, v12, v13, v14, v15, v16]).toList) rfl o2 _ 0 [] rfl (src_zero _ _ _) (by omega) (by omega) hHeld.size ?_
          intro u3 Wz o3 g3
          have m3 : Nb W2 Wz := hHeld.grown g3 (own_ge o2)
          refine hK.out _ _ m3 (fun hHeld => ?_)
          clear hK K
          simp only [Act.put, List.setIfInBounds_toArray, List.set_cons_zero, List.set_cons_succ]
          refine take_l (i := 12) (v := u3) rfl (by kernel_rfl) (by kernel_rfl) (by kernel_rfl) (fun _ _ _ h => h) (.inl ⟨by rfl, by intro w' hw; go_simp⟩) hHeld ?_
          simp only [Act.put, List.setIfInBounds_toArray, List.set_cons_zero, List.set_cons_succ]
          refine wpAnyH_done (by kernel_rfl) ?_ _
          go_wp2_with fail
          go_meet
          exact m3
      · refine wp_bs 22 1 #[(0, (.tmp 41))] rfl #[(0, .agg #[v0, v1, v2, v3, v4, v5, v6, v7, v8, v9, v10, v11, v12, v13, v14, v15, v16])] (by kernel_rfl) _ (hbs.out _) ?_
        refine hK.out _ _ (hHeld.alloc _) (fun hHeld => ?_)
        clear hK K
        simp only [Act.put, List.setIfInBounds_toArray, List.set_cons_zero, List.set_cons_succ]
        have q0 : (Wd.alloc (.cells #[v0, v1, v2, v3, v4, v5, v6, v7, v8, v9, v10, v11, v12, v13, v14, v15, v16] 29)).heap[Wd.heap.size]? = some (.cells #[v0, v1, v2, v3, v4, v5, v6, v7, v8, v9, v10, v11, v12, v13, v14, v15, v16] 29 (0, 0)) := new_blk _ _ rfl
        have ltWe : Wd.heap.size < (Wd.alloc (.cells #[v0, v1, v2, v3, v4, v5, v6, v7, v8, v9, v10, v11, v12, v13, v14, v15, v16] 29)).heap.size := by simp
        generalize Wd.alloc (.cells #[v0, v1, v2, v3, v4, v5, v6, v7, v8, v9, v10, v11, v12, v13, v14, v15, v16] 29) = We at q0 ltWe hHeld ⊢
        refine wpAnyH_ready (rs := [0]) (by kernel_rfl) (by simp) (cons_l rfl (by rfl) (fun K hK => ?_) .nil)
        go_simp
        refine hK.out _ _ (hHeld.alloc _) (fun hHeld => ?_)
        clear hK K
        simp only [Act.put, List.setIfInBounds_toArray, List.set_cons_zero, List.set_cons_succ]
        have o0 : (We.alloc (.cells #[] 29)).ownsRow W2.heap.size 29 17 (.slice (some ⟨We.heap.size, 0, none⟩) 0 0) 0 [] := own0 (new_blk _ _ rfl) (Nat.le_trans hb0 (by omega))
        have ltWg : We.heap.size < (We.alloc (.cells #[] 29)).heap.size := by simp
        replace q0 := old_blk q0 (.cells #[] 29)
        generalize We.alloc (.cells #[] 29) = Wg at o0 ltWg q0 hHeld ⊢
        refine wpAnyH_ready (rs := [4]) (by kernel_rfl) (by simp) (cons_l rfl (by rfl) (fun K hK => ?_) .nil)
        refine wp_app (.tmp 36) (.tmp 39) 22 rfl W2.heap.size 29 i0 _ 17 176 Try.underlying22 hi0 hz0 hz1 hz2 rfl (by decide) _ 0 [] rfl o0 _ 0 [] rfl (src_zero _ _ _) (by omega) (by omega) hHeld.size ?_
        intro u1 Wf o1 g1
        have m1 : Nb W2 Wf := hHeld.grown g1 (own_ge o0)
        refine hK.out _ _ m1 (fun hHeld => ?_)
        clear hK K
        simp only [Act.put, List.setIfInBounds_toArray, List.set_cons_zero, List.set_cons_succ]
        replace q0 := grown_blk g1 q0 (fun e => absurd (show We.heap.size = Wd.heap.size from Option.some.inj e) (by omega))
        refine wpAnyH_ready (rs := [7]) (by kernel_rfl) (by simp) (cons_l rfl (by rfl) (fun K hK => ?_) .nil)
        refine wp_app (.tmp 40) (.tmp 42) 22 rfl W2.heap.size 29 i0 _ 17 176 Try.underlying22 hi0 hz0 hz1 hz2 rfl (by decide) _ (0 + 0) ([] ++ []) rfl o1 _ 1 (#[v0, v1, v2, v3, v4, v5, v6, v7, v8, v9, v10, v11, v12, v13, v14, v15, v16]).toList rfl (src_one q0 rfl hon.out) (by omega) (by omega) hHeld.size ?_
        intro u2 Wy o2 g2
        have m2 : Nb W2 Wy := hHeld.grown g2 (own_ge o1)
        refine hK.out _ _ m2 (fun hHeld => ?_)
        clear hK K
        simp only [Act.put, List.setIfInBounds_toArray, List.set_cons_zero, List.set_cons_succ]
        refine wpAnyH_ready (rs := [11]) (by kernel_rfl) (by simp) (cons_l rfl (by rfl) (fun K hK => ?_) .nil)
        refine wp_app (.tmp 43) (.tmp 46) 22 rfl W2.heap.size 29 i0 _ 17 176 Try.underlying22 hi0 hz0 hz1 hz2 rfl (by decide) _ (0 + 0 + 1) ([] ++ [] ++ (#[v0, v1, v2, v3, v4, v5, v6, v7, v8, v9, v10, v11, v12, v13, v14, v15, v16]).toList) rfl o2 _ 0 [] rfl (src_zero _ _ _) (by omega) (by omega) hHeld.size ?_
        intro u3 Wz o3 g3
        have m3 : Nb W2 Wz := hHeld.grown g3 (own_ge o2)
        refine hK.out _ _ m3 (fun hHeld => ?_)
        clear hK K
        simp only [Act.put, List.setIfInBounds_toArray, List.set_cons_zero, List.set_cons_succ]
        refine take_l (i := 12) (v := u3) rfl (by kernel_rfl) (by kernel_rfl) (by kernel_rfl) (fun _ _ _ h => h) (.inl ⟨by rfl, by intro w' hw; go_simp⟩) hHeld ?_
        simp only [Act.put, List.setIfInBounds_toArray, List.set_cons_zero, List.set_cons_succ]
        refine wpAnyH_done (by kernel_rfl) ?_ _
        go_wp2_with fail
        go_meet
        exact m3
  case rest =>
    have n3 := hcut
    clear hcut
    have bF3 := n3.block bF
    have d8 : wc.cell? ⟨w1.heap.size, 8, none⟩ = some v8 := cell_of_row _ _ 8 _ _ _ bF3
    have d9 : wc.cell? ⟨w1.heap.size, 9, none⟩ = some v9 := cell_of_row _ _ 9 _ _ _ bF3
    have d0 := frozen_blk bF3 8
    have d1 := frozen_blk bF3 9
    have hn3 := Lib.hid n3
    have hb3 := Lib.hid bF3
    have hlt := lt_blk bF
    clear bF3 bF n3
    go_upto_region 7 with (fail)
    obtain ⟨W4, hW⟩ : ∃ W4, (wc.setCell ⟨w1.heap.size, 8, none⟩ (.int .i64 3)).setCell ⟨w1.heap.size, 9, none⟩ (.int .i64 3) = W4 := ⟨_, rfl⟩
    have n4 : Nb w W4 := by rw [← hW]; exact ((n2.trans hn3.out).setCell k1.size _).setCell k1.size _
    obtain ⟨x3, hx3⟩ : ∃ x, Value.int .i64 3 = x := ⟨_, rfl⟩
    have bF4 : W4.heap[w1.heap.size]? = some (.cells #[v0, v1, v2, v3, v4, v5, v6, v7, x3, x3, v10, v11, v12, v13, v14, v15, v16] 29 (0, 0)) := by
      rw [← hW, ← hx3]
      exact set_blk (set_blk hb3.out 8 _) 9 _
    have hFl2 := Lib.hid (show (fenceD 3 3).cells = (#[v0, v1, v2, v3, v4, v5, v6, v7, x3, x3, v10, v11, v12, v13, v14, v15, v16]).toList by rw [← hx3]; exact fence_cells hF'.out)
    have hon2 := Lib.hid (show ∀ u ∈ (#[v0, v1, v2, v3, v4, v5, v6, v7, x3, x3, v10, v11, v12, v13, v14, v15, v16]).toList, u.oneCell' = true by rw [← hFl2.out]; exact (fence_ok 3 3 w).ones)
    have rF2 := Lib.hid (show W4.rangeAt w1.heap.size 0 [v0, v1, v2, v3, v4, v5, v6, v7, x3, x3, v10, v11, v12, v13, v14, v15, v16] from rng17 bF4)
    have hbs2 := Lib.hid (fun W => bs1 (a := #[v0, v1, v2, v3, v4, v5, v6, v7, x3, x3, v10, v11, v12, v13, v14, v15, v16]) rfl W)
    rw [hW]
    clear hW d8 d9 d0 d1 hn3 hb3 hlt hon hFl hbs hF'
    have hz4 := n4.size
    go_cut [12] (fun s12 wx => Nb W4 wx)
    case first =>
      cases p with
      | none =>
        obtain rfl : c = 0 := hpa rfl
        refine wp_region_held_drew (S := fun w' => Nb W4 w') (by kernel_rfl) (Nb.refl W4).drew1 (fun hHeld => ?_)
        change wpAnyH _ _ _ _ _ 13 (List.toArray [false, false, false, false, false, false, false, false, false, false, false, false, false]) _ _
        refine take_l (i := 1) (v := .slice none 0 0) rfl (by kernel_rfl) (by kernel_rfl) (by kernel_rfl) (fun _ _ _ h => h) (.inl ⟨by rfl, by intro w' hw; go_simp⟩) hHeld ?_
        simp only [Act.put, List.setIfInBounds_toArray, List.set_cons_zero, List.set_cons_succ]
        refine take_l (i := 2) (v := .int .i64 0) rfl (by kernel_rfl) (by kernel_rfl) (by kernel_rfl) (fun _ _ _ h => h) (.inl ⟨by rfl, by intro w' hw; go_simp⟩) hHeld ?_
        simp only [Act.put, List.setIfInBounds_toArray, List.set_cons_zero, List.set_cons_succ]
        refine take_l (i := 3) (v := .slice none 0 0) rfl (by kernel_rfl) (by kernel_rfl) (by kernel_rfl) (fun _ _ _ h => h) (.inl ⟨by rfl, by intro w' hw; go_simp⟩) hHeld ?_
        simp only [Act.put, List.setIfInBounds_toArray, List.set_cons_zero, List.set_cons_succ]
        refine take_l (i := 5) (v := .agg ([v0, v1, v2, v3, v4, v5, v6, v7, x3, x3, v10, v11, v12, v13, v14, v15, v16] : List Value).toArray) rfl (by kernel_rfl) (by kernel_rfl) (by kernel_rfl) (fun _ _ _ h => h) (yieldsIf_load_mid (by rfl) 29 (.tmp 10) rfl w1.heap.size 0 rfl [v0, v1, v2, v3, v4, v5, v6, v7, x3, x3, v10, v11, v12, v13, v14, v15, v16] _ (fun w' hw => hw.range rF2.out) Try.underlying29 rfl hiO.out) hHeld ?_
        simp only [Act.put, List.setIfInBounds_toArray, List.set_cons_zero, List.set_cons_succ]
        refine take_l (i := 8) (v := .slice none 0 0) rfl (by kernel_rfl) (by kernel_rfl) (by kernel_rfl) (fun _ _ _ h => h) (.inl ⟨by rfl, by intro w' hw; go_simp⟩) hHeld ?_
        simp only [Act.put, List.setIfInBounds_toArray, List.set_cons_zero, List.set_cons_succ]
        refine take_l (i := 9) (v := .int .i64 0) rfl (by kernel_rfl) (by kernel_rfl) (by kernel_rfl) (fun _ _ _ h => h) (.inl ⟨by rfl, by intro w' hw; go_simp⟩) hHeld ?_
        simp only [Act.put, List.setIfInBounds_toArray, List.set_cons_zero, List.set_cons_succ]
        refine take_l (i := 10) (v := .slice none 0 0) rfl (by kernel_rfl) (by kernel_rfl) (by kernel_rfl) (fun _ _ _ h => h) (.inl ⟨by rfl, by intro w' hw; go_simp⟩) hHeld ?_
        simp only [Act.put, List.setIfInBounds_toArray, List.set_cons_zero, List.set_cons_succ]
        generalize W4.drew = Wd at hHeld ⊢
        have hb0 := hHeld.size
        refine wpAnyH_ready (rs := [0, 6]) (by kernel_rfl) (by simp) (cons_l rfl (by rfl) (fun K hK => ?_) (cons_l rfl (by rfl) (fun K hK => ?_) .nil))
        · go_simp
          refine hK.out _ _ (hHeld.alloc _) (fun hHeld => ?_)
          clear hK K
          simp only [Act.put, List.setIfInBounds_toArray, List.set_cons_zero, List.set_cons_succ]
          have o0 : (Wd.alloc (.cells #[] 29)).ownsRow W4.heap.size 29 17 (.slice (some ⟨Wd.heap.size, 0, none⟩) 0 0) 0 [] := own0 (new_blk _ _ rfl) (Nat.le_trans hb0 (by omega))
          have ltWe : Wd.heap.size < (Wd.alloc (.cells #[] 29)).heap.size := by simp
          generalize Wd.alloc (.cells #[] 29) = We at o0 ltWe hHeld ⊢
          refine wpAnyH_ready (rs := [4, 6]) (by kernel_rfl) (by simp) (cons_l rfl (by rfl) (fun K hK => ?_) (cons_l rfl (by rfl) (fun K hK => ?_) .nil))
          · refine wp_app (.tmp 50) (.tmp 53) 22 rfl W4.heap.size 29 i0 _ 17 176 Try.underlying22 hi0 hz0 hz1 hz2 rfl (by decide) _ 0 [] rfl o0 _ 0 [] rfl (.inl ⟨rfl, rfl, rfl⟩) (by omega) (by omega) hHeld.size ?_
            intro u1 Wf o1 g1
            have m1 : Nb W4 Wf := hHeld.grown g1 (own_ge o0)
            refine hK.out _ _ m1 (fun hHeld => ?_)
            clear hK K
            simp only [Act.put, List.setIfInBounds_toArray, List.set_cons_zero, List.set_cons_succ]
            refine wpAnyH_ready (rs := [6]) (by kernel_rfl) (by simp) (cons_l rfl (by rfl) (fun K hK => ?_) .nil)
            refine wp_bs 22 1 #[(0, (.tmp 55))] rfl #[(0, .agg #[v0, v1, v2, v3, v4, v5, v6, v7, x3, x3, v10, v11, v12, v13, v14, v15, v16])] (by kernel_rfl) _ (hbs2.out _) ?_
            refine hK.out _ _ (hHeld.alloc _) (fun hHeld => ?_)
            clear hK K
            simp only [Act.put, List.setIfInBounds_toArray, List.set_cons_zero, List.set_cons_succ]
            have q0 : (Wf.alloc (.cells #[v0, v1, v2, v3, v4, v5, v6, v7, x3, x3, v10, v11, v12, v13, v14, v15, v16] 29)).heap[Wf.heap.size]? = some (.cells #[v0, v1, v2, v3, v4, v5, v6, v7, x3, x3, v10, v11, v12, v13, v14, v15, v16] 29 (0, 0)) := new_blk _ _ rfl
            replace o1 := o1.alloc (.cells #[v0, v1, v2, v3, v4, v5, v6, v7, x3, x3, v10, v11, v12, v13, v14, v15, v16] 29)
            generalize Wf.alloc (.cells #[v0, v1, v2, v3, v4, v5, v6, v7, x3, x3, v10, v11, v12, v13, v14, v15, v16] 29) = Wg at q0 o1 hHeld ⊢
            refine wpAnyH_ready (rs := [7]) (by kernel_rfl) (by simp) (cons_l rfl (by rfl) (fun K hK => ?_) .nil)
            refine wp_app (.tmp 54) (.tmp 56) 22 rfl W4.heap.size 29 i0 _ 17 176 Try.underlying22 hi0 hz0 hz1 hz2 rfl (by decide) _ (0 + 0) ([] ++ []) rfl o1 _ 1 (#[v0, v1, v2, v3, v4, v5, v6, v7, x3, x3, v10, v11, v12, v13, v14, v15, v16]).toList rfl (src_one q0 rfl hon2.out) (by omega) (by omega) hHeld.size ?_
            intro u2 Wy o2 g2
            have m2 : Nb W4 Wy := hHeld.grown g2 (own_ge o1)
            refine hK.out _ _ m2 (fun hHeld => ?_)
            clear hK K
            simp only [Act.put, List.setIfInBounds_toArray, List.set_cons_zero, List.set_cons_succ]
            refine wpAnyH_ready (rs := [11]) (by kernel_rfl) (by simp) (cons_l rfl (by rfl) (fun K hK => ?_) .nil)
            refine wp_app (.tmp 57) (.tmp 60) 22 rfl W4.heap.size 29 i0 _ 17 176 Try.underlying22 hi0 hz0 hz1 hz2 rfl (by decide) _ (0 + 0 + 1) ([] ++ [] ++ (#[v0, v1, v2, v3, v4, v5, v6, v7, x3, x3, v10, v11, v12, v13, v14, v15, v16]).toList) rfl o2 _ 0 [] rfl (.inl ⟨rfl, rfl, rfl⟩) (by omega) (by omega) hHeld.size ?_
            intro u3 Wz o3 g3
            have m3 : Nb W4 Wz := hHeld.grown g3 (own_ge o2)
            refine hK.out _ _ m3 (fun hHeld => ?_)
            clear hK K
            simp only [Act.put, List.setIfInBounds_toArray, List.set_cons_zero, List.set_cons_succ]
            refine take_l (i := 12) (v := u3) rfl (by kernel_rfl) (by kernel_rfl) (by kernel_rfl) (fun _ _ _ h => h) (.inl ⟨by rfl, by intro w' hw; go_simp⟩) hHeld ?_
            simp only [Act.put, List.setIfInBounds_toArray, List.set_cons_zero, List.set_cons_succ]
            refine wpAnyH_done (by kernel_rfl) ?_ _
            go_wp2_with fail
            go_meet
            exact m3
          · refine wp_bs 22 1 #[(0, (.tmp 55))] rfl #[(0, .agg #[v0, v1, v2, v3, v4, v5, v6, v7, x3, x3, v10, v11, v12, v13, v14, v15, v16])] (by kernel_rfl) _ (hbs2.out _) ?_
            refine hK.out _ _ (hHeld.alloc _) (fun hHeld => ?_)
            clear hK K
            simp only [Act.put, List.setIfInBounds_toArray, List.set_cons_zero, List.set_cons_succ]
            have q0 : (We.alloc (.cells #[v0, v1, v2, v3, v4, v5, v6, v7, x3, x3, v10, v11, v12, v13, v14, v15, v16] 29)).heap[We.heap.size]? = some (.cells #[v0, v1, v2, v3, v4, v5, v6, v7, x3, x3, v10, v11, v12, v13, v14, v15, v16] 29 (0, 0)) := new_blk _ _ rfl
            replace o0 := o0.alloc (.cells #[v0, v1, v2, v3, v4, v5, v6, v7, x3, x3, v10, v11, v12, v13, v14, v15, v16] 29)
            generalize We.alloc (.cells #[v0, v1, v2, v3, v4, v5, v6, v7, x3, x3, v10, v11, v12, v13, v14, v15, v16] 29) = Wg at q0 o0 hHeld ⊢
            refine wpAnyH_ready (rs := [4]) (by kernel_rfl) (by simp) (cons_l rfl (by rfl) (fun K hK => ?_) .nil)
            refine wp_app (.tmp 50) (.tmp 53) 22 rfl W4.heap.size 29 i0 _ 17 176 Try.underlying22 hi0 hz0 hz1 hz2 rfl (by decide) _ 0 [] rfl o0 _ 0 [] rfl (.inl ⟨rfl, rfl, rfl⟩) (by omega) (by omega) hHeld.size ?_
            intro u1 Wf o1 g1
            have m1 : Nb W4 Wf := hHeld.grown g1 (own_ge o0)
            refine hK.out _ _ m1 (fun hHeld => ?_)
            clear hK K
            simp only [Act.put, List.setIfInBounds_toArray, List.set_cons_zero, List.set_cons_succ]
            replace q0 := grown_blk g1 q0 (fun e => absurd (show Wd.heap.size = We.heap.size from Option.some.inj e) (by omega))
            refine wpAnyH_ready (rs := [7]) (by kernel_rfl) (by simp) (cons_l rfl (by rfl) (fun K hK => ?_) .nil)
            refine wp_app (.tmp 54) (.tmp 56) 22 rfl W4.heap.size 29 i0 _ 17 176 Try.underlying22 hi0 hz0 hz1 hz2 rfl (by decide) _ (0 + 0) ([] ++ []) rfl o1 _ 1 (#[v0, v1, v2, v3, v4, v5, v6, v7, x3, x3, v10, v11, v12, v13, v14, v15, v16]).toList rfl (src_one q0 rfl hon2.out) (by omega) (by omega) hHeld.size ?_
            intro u2 Wy o2 g2
            have m2 : Nb W4 Wy := hHeld.grown g2 (own_ge o1)
            refine hK.out _ _ m2 (fun hHeld => ?_)
            clear hK K
            simp only [Act.put, List.setIfInBounds_toArray, List.set_cons_zero, List.set_cons_succ]
            refine wpAnyH_ready (rs := [11]) (by kernel_rfl) (by simp) (cons_l rfl (by rfl) (fun K hK => ?_) .nil)
            refine wp_app (.tmp 57) (.tmp 60) 22 rfl W4.heap.size 29 i0 _ 17 176 Try.underlying22 hi0 hz0 hz1 hz2 rfl (by decide) _ (0 + 0 + 1) ([] ++ [] ++ (#[v0, v1, v2, v3, v4, v5, v6, v7, x3, x3, v10, v11, v12, v13, v14, v15, v16]).toList) rfl o2 _ 0 [] rfl (.inl ⟨rfl, rfl, rfl⟩) (by omega) (by omega) hHeld.size ?_
            intro u3 Wz o3 g3
            have m3 : Nb W4 Wz := hHeld.grown g3 (own_ge o2)
            refine hK.out _ _ m3 (fun hHeld => ?_)
            clear hK K
            simp only [Act.put, List.setIfInBounds_toArray, List.set_cons_zero, List.set_cons_succ]
            refine take_l (i := 12) (v := u3) rfl (by kernel_rfl) (by kernel_rfl) (by kernel_rfl) (fun _ _ _ h => h) (.inl ⟨by rfl, by intro w' hw; go_simp⟩) hHeld ?_
            simp only [Act.put, List.setIfInBounds_toArray, List.set_cons_zero, List.set_cons_succ]
            refine wpAnyH_done (by kernel_rfl) ?_ _
            go_wp2_with fail
            go_meet
            exact m3
        · refine wp_bs 22 1 #[(0, (.tmp 55))] rfl #[(0, .agg #[v0, v1, v2, v3, v4, v5, v6, v7, x3, x3, v10, v11, v12, v13, v14, v15, v16])] (by kernel_rfl) _ (hbs2.out _) ?_
          refine hK.out _ _ (hHeld.alloc _) (fun hHeld => ?_)
          clear hK K
          simp only [Act.put, List.setIfInBounds_toArray, List.set_cons_zero, List.set_cons_succ]
          have q0 : (Wd.alloc (.cells #[v0, v1, v2, v3, v4, v5, v6, v7, x3, x3, v10, v11, v12, v13, v14, v15, v16] 29)).heap[Wd.heap.size]? = some (.cells #[v0, v1, v2, v3, v4, v5, v6, v7, x3, x3, v10, v11, v12, v13, v14, v15, v16] 29 (0, 0)) := new_blk _ _ rfl
          have ltWe : Wd.heap.size < (Wd.alloc (.cells #[v0, v1, v2, v3, v4, v5, v6, v7, x3, x3, v10, v11, v12, v13, v14, v15, v16] 29)).heap.size := by simp
          generalize Wd.alloc (.cells #[v0, v1, v2, v3, v4, v5, v6, v7, x3, x3, v10, v11, v12, v13, v14, v15, v16] 29) = We at q0 ltWe hHeld ⊢
          refine wpAnyH_ready (rs := [0]) (by kernel_rfl) (by simp) (cons_l rfl (by rfl) (fun K hK => ?_) .nil)
          go_simp
          refine hK.out _ _ (hHeld.alloc _) (fun hHeld => ?_)
          clear hK K
          simp only [Act.put, List.setIfInBounds_toArray, List.set_cons_zero, List.set_cons_succ]
          have o0 : (We.alloc (.cells #[] 29)).ownsRow W4.heap.size 29 17 (.slice (some ⟨We.heap.size, 0, none⟩) 0 0) 0 [] := own0 (new_blk _ _ rfl) (Nat.le_trans hb0 (by omega))
          have ltWg : We.heap.size < (We.alloc (.cells #[] 29)).heap.size := by simp
          replace q0 := old_blk q0 (.cells #[] 29)
          generalize We.alloc (.cells #[] 29) = Wg at o0 ltWg q0 hHeld ⊢
          refine wpAnyH_ready (rs := [4]) (by kernel_rfl) (by simp) (cons_l rfl (by rfl) (fun K hK => ?_) .nil)
          refine wp_app (.tmp 50) (.tmp 53) 22 rfl W4.heap.size 29 i0 _ 17 176 Try.underlying22 hi0 hz0 hz1 hz2 rfl (by decide) _ 0 [] rfl o0 _ 0 [] rfl (.inl ⟨rfl, rfl, rfl⟩) (by omega) (by omega) hHeld.size ?_
          intro u1 Wf o1 g1
          have m1 : Nb W4 Wf := hHeld.grown g1 (own_ge o0)
          refine hK.out _ _ m1 (fun hHeld => ?_)
          clear hK K
          simp only [Act.put, List.setIfInBounds_toArray, List.set_cons_zero, List.set_cons_succ]
          replace q0 := grown_blk g1 q0 (fun e => absurd (show We.heap.size = Wd.heap.size from Option.some.inj e) (by omega))
          refine wpAnyH_ready (rs := [7]) (by kernel_rfl) (by simp) (cons_l rfl (by rfl) (fun K hK => ?_) .nil)
          refine wp_app (.tmp 54) (.tmp 56) 22 rfl W4.heap.size 29 i0 _ 17 176 Try.underlying22 hi0 hz0 hz1 hz2 rfl (by decide) _ (0 + 0) ([] ++ []) rfl o1 _ 1 (#[v0, v1, v2, v3, v4, v5, v6, v7, x3, x3, v10, v11, v12, v13, v14, v15, v16]).toList rfl (src_one q0 rfl hon2.out) (by omega) (by omega) hHeld.size ?_
          intro u2 Wy o2 g2
          have m2 : Nb W4 Wy := hHeld.grown g2 (own_ge o1)
          refine hK.out _ _ m2 (fun hHeld => ?_)
          clear hK K
          simp only [Act.put, List.setIfInBounds_toArray, List.set_cons_zero, List.set_cons_succ]
          refine wpAnyH_ready (rs := [11]) (by kernel_rfl) (by simp) (cons_l rfl (by rfl) (fun K hK => ?_) .nil)
          refine wp_app (.tmp 57) (.tmp 60) 22 rfl W4.heap.size 29 i0 _ 17 176 Try.underlying22 hi0 hz0 hz1 hz2 rfl (by decide) _ (0 + 0 + 1) ([] ++ [] ++ (#[v0, v1, v2, v3, v4, v5, v6, v7, x3, x3, v10, v11, v12, v13, v14, v15, v16]).toList) rfl o2 _ 0 [] rfl (.inl ⟨rfl, rfl, rfl⟩) (by omega) (by omega) hHeld.size ?_
          intro u3 Wz o3 g3
          have m3 : Nb W4 Wz := hHeld.grown g3 (own_ge o2)
          refine hK.out _ _ m3 (fun hHeld => ?_)
          clear hK K
          simp only [Act.put, List.setIfInBounds_toArray, List.set_cons_zero, List.set_cons_succ]
          refine take_l (i := 12) (v := u3) rfl (by kernel_rfl) (by kernel_rfl) (by kernel_rfl) (fun _ _ _ h => h) (.inl ⟨by rfl, by intro w' hw; go_simp⟩) hHeld ?_
          simp only [Act.put, List.setIfInBounds_toArray, List.set_cons_zero, List.set_cons_succ]
          refine wpAnyH_done (by kernel_rfl) ?_ _
          go_wp2_with fail
          go_meet
          exact m3
      | some a =>
        refine wp_region_held_drew (S := fun w' => Nb W4 w') (by kernel_rfl) (Nb.refl W4).drew1 (fun hHeld => ?_)
        change wpAnyH _ _ _ _ _ 13 (List.toArray [false, false, false, false, false, false, false, false, false, false, false, false, false]) _ _
        refine take_l (i := 1) (v := .slice (some a) 0 c) rfl (by kernel_rfl) (by kernel_rfl) (by kernel_rfl) (fun _ _ _ h => h) (.inl ⟨by rfl, by intro w' hw; go_simp⟩) hHeld ?_
        simp only [Act.put, List.setIfInBounds_toArray, List.set_cons_zero, List.set_cons_succ]
        refine take_l (i := 2) (v := .int .i64 0) rfl (by kernel_rfl) (by kernel_rfl) (by kernel_rfl) (fun _ _ _ h => h) (.inl ⟨by rfl, by intro w' hw; go_simp⟩) hHeld ?_
        simp only [Act.put, List.setIfInBounds_toArray, List.set_cons_zero, List.set_cons_succ]
        refine take_l (i := 3) (v := .slice (some a) 0 c) rfl (by kernel_rfl) (by kernel_rfl) (by kernel_rfl) (fun _ _ _ h => h) (.inl ⟨by rfl, by intro w' hw; go_simp⟩) hHeld ?_
        simp only [Act.put, List.setIfInBounds_toArray, List.set_cons_zero, List.set_cons_succ]
        refine take_l (i := 5) (v := .agg ([v0, v1, v2, v3, v4, v5, v6, v7, x3, x3, v10, v11, v12, v13, v14, v15, v16] : List Value).toArray) rfl (by kernel_rfl) (by kernel_rfl) (by kernel_rfl) (fun _ _ _ h => h) (yieldsIf_load_mid (by rfl) 29 (.tmp 10) rfl w1.heap.size 0 rfl [v0, v1, v2, v3, v4, v5, v6, v7, x3, x3, v10, v11, v12, v13, v14, v15, v16] _ (fun w' hw => hw.range rF2.out) Try.underlying29 rfl hiO.out) hHeld ?_
        simp only [Act.put, List.setIfInBounds_toArray, List.set_cons_zero, List.set_cons_succ]
        refine take_l (i := 8) (v := .slice (some a) 0 c) rfl (by kernel_rfl) (by kernel_rfl) (by kernel_rfl) (fun _ _ _ h => h) (.inl ⟨by rfl, by intro w' hw; go_simp⟩) hHeld ?_
        simp only [Act.put, List.setIfInBounds_toArray, List.set_cons_zero, List.set_cons_succ]
        refine take_l (i := 9) (v := .int .i64 0) rfl (by kernel_rfl) (by kernel_rfl) (by kernel_rfl) (fun _ _ _ h => h) (.inl ⟨by rfl, by intro w' hw; go_simp⟩) hHeld ?_
        simp only [Act.put, List.setIfInBounds_toArray, List.set_cons_zero, List.set_cons_succ]
        refine take_l (i := 10) (v := .slice (some a) 0 c) rfl (by kernel_rfl) (by kernel_rfl) (by kernel_rfl) (fun _ _ _ h => h) (.inl ⟨by rfl, by intro w' hw; go_simp⟩) hHeld ?_
        simp only [Act.put, List.setIfInBounds_toArray, List.set_cons_zero, List.set_cons_succ]
        generalize W4.drew = Wd at hHeld ⊢
        have hb0 := hHeld.size
        refine wpAnyH_ready (rs := [0, 6]) (by kernel_rfl) (by simp) (cons_l rfl (by rfl) (fun K hK => ?_) (cons_l rfl (by rfl) (fun K hK => ?_) .nil))
        · go_simp
          refine hK.out _ _ (hHeld.alloc _) (fun hHeld => ?_)
          clear hK K
          simp only [Act.put, List.setIfInBounds_toArray, List.set_cons_zero, List.set_cons_succ]
          have o0 : (Wd.alloc (.cells #[] 29)).ownsRow W4.heap.size 29 17 (.slice (some ⟨Wd.heap.size, 0, none⟩) 0 0) 0 [] := own0 (new_blk _ _ rfl) (Nat.le_trans hb0 (by omega))
          have ltWe : Wd.heap.size < (Wd.alloc (.cells #[] 29)).heap.size := by simp
          generalize Wd.alloc (.cells #[] 29) = We at o0 ltWe hHeld ⊢
          refine wpAnyH_ready (rs := [4, 6]) (by kernel_rfl) (by simp) (cons_l rfl (by rfl) (fun K hK => ?_) (cons_l rfl (by rfl) (fun K hK => ?_) .nil))
          · refine wp_app (.tmp 50) (.tmp 53) 22 rfl W4.heap.size 29 i0 _ 17 176 Try.underlying22 hi0 hz0 hz1 hz2 rfl (by decide) _ 0 [] rfl o0 _ 0 [] rfl (src_zero _ _ _) (by omega) (by omega) hHeld.size ?_
            intro u1 Wf o1 g1
            have m1 : Nb W4 Wf := hHeld.grown g1 (own_ge o0)
            refine hK.out _ _ m1 (fun hHeld => ?_)
            clear hK K
            simp only [Act.put, List.setIfInBounds_toArray, List.set_cons_zero, List.set_cons_succ]
            refine wpAnyH_ready (rs := [6]) (by kernel_rfl) (by simp) (cons_l rfl (by rfl) (fun K hK => ?_) .nil)
            refine wp_bs 22 1 #[(0, (.tmp 55))] rfl #[(0, .agg #[v0, v1, v2, v3, v4, v5, v6, v7, x3, x3, v10, v11, v12, v13, v14, v15, v16])] (by kernel_rfl) _ (hbs2.out _) ?_
            refine hK.out _ _ (hHeld.alloc _) (fun hHeld => ?_)
            clear hK K
            simp only [Act.put, List.setIfInBounds_toArray, List.set_cons_zero, List.set_cons_succ]
            have q0 : (Wf.alloc (.cells #[v0, v1, v2, v3, v4, v5, v6, v7, x3, x3, v10, v11, v12, v13, v14, v15, v16] 29)).heap[Wf.heap.size]? = some (.cells #[v0, v1, v2, v3, v4, v5, v6, v7, x3, x3, v10, v11, v12, v13, v14, v15, v16] 29 (0, 0)) := new_blk _ _ rfl
            replace o1 := o1.alloc (.cells #[v0, v1, v2, v3, v4, v5, v6, v7, x3, x3, v10, v11, v12, v13, v14, v15, v16] 29)
            generalize Wf.alloc (.cells #[v0, v1, v2, v3, v4, v5, v6, v7, x3, x3, v10, v11, v12, v13, v14, v15, v16] 29) = Wg at q0 o1 hHeld ⊢
            refine wpAnyH_ready (rs := [7]) (by kernel_rfl) (by simp) (cons_l rfl (by rfl) (fun K hK => ?_) .nil)
            refine wp_app (.tmp 54) (.tmp 56) 22 rfl W4.heap.size 29 i0 _ 17 176 Try.underlying22 hi0 hz0 hz1 hz2 rfl (by decide) _ (0 + 0) ([] ++ []) rfl o1 _ 1 (#[v0, v1, v2, v3, v4, v5, v6, v7, x3, x3, v10, v11, v12, v13, v14, v15, v16]).toList rfl (src_one q0 rfl hon2.out) (by omega) (by omega) hHeld.size ?_
            intro u2 Wy o2 g2
            have m2 : Nb W4 Wy := hHeld.grown g2 (own_ge o1)
            refine hK.out _ _ m2 (fun hHeld => ?_)
            clear hK K
            simp only [Act.put, List.setIfInBounds_toArray, List.set_cons_zero, List.set_cons_succ]
            refine wpAnyH_ready (rs := [11]) (by kernel_rfl) (by simp) (cons_l rfl (by rfl) (fun K hK => ?_) .nil)
            refine wp_app (.tmp 57) (.tmp 60) 22 rfl W4.heap.size 29 i0 _ 17 176 Try.underlying22 hi0 hz0 hz1 hz2 rfl (by decide) _ (0 + 0 + 1) ([] ++ [] ++ (#[v0, v1, v2, v3, v4, v5, v6, v7, x3, x3, v10, v11, v12, v13, v14, v15, v16]).toList) rfl o2 _ 0 [] rfl (src_zero _ _ _) (by omega) (by omega) hHeld.size ?_
            intro u3 Wz o3 g3
            have m3 : Nb W4 Wz := hHeld.grown g3 (own_ge o2)
            refine hK.out _ _ m3 (fun hHeld => ?_)
            clear hK K
            simp only [Act.put, List.setIfInBounds_toArray, List.set_cons_zero, List.set_cons_succ]
            refine take_l (i := 12) (v := u3) rfl (by kernel_rfl) (by kernel_rfl) (by kernel_rfl) (fun _ _ _ h => h) (.inl ⟨by rfl, by intro w' hw; go_simp⟩) hHeld ?_
            simp only [Act.put, List.setIfInBounds_toArray, List.set_cons_zero, List.set_cons_succ]
            refine wpAnyH_done (by kernel_rfl) ?_ _
            go_wp2_with fail
            go_meet
            exact m3
          · refine wp_bs 22 1 #[(0, (.tmp 55))] rfl #[(0, .agg #[v0, v1, v2, v3, v4, v5, v6, v7, x3, x3, v10, v11, v12, v13, v14, v15, v16])] (by kernel_rfl) _ (hbs2.out _) ?_
            refine hK.out _ _ (hHeld.alloc _) (fun hHeld => ?_)
            clear hK K
            simp only [Act.put, List.setIfInBounds_toArray, List.set_cons_zero, List.set_cons_succ]
            have q0 : (We.alloc (.cells #[v0, v1, v2, v3, v4, v5, v6, v7, x3, x3, v10, v11, v12, v13, v14, v15, v16] 29)).heap[We.heap.size]? = some (.cells #[v0, v1, v2, v3, v4, v5, v6, v7, x3, x3, v10, v11, v12, v13, v14, v15, v16] 29 (0, 0)) := new_blk _ _ rfl
            replace o0 := o0.alloc (.cells #[v0, v1, v2, v3, v4, v5, v6, v7, x3, x3, v10, v11, v12, v13, v14, v15, v16] 29)
            generalize We.alloc (.cells #[v0, v1, v2, v3, v4, v5, v6, v7, x3, x3, v10, v11, v12, v13, v14, v15, v16] 29) = Wg at q0 o0 hHeld ⊢
            refine wpAnyH_ready (rs := [4]) (by kernel_rfl) (by simp) (cons_l rfl (by rfl) (fun K hK => ?_) .nil)
            refine wp_app (.tmp 50) (.tmp 53) 22 rfl W4.heap.size 29 i0 _ 17 176 Try.underlying22 hi0 hz0 hz1 hz2 rfl (by decide) _ 0 [] rfl o0 _ 0 [] rfl (src_zero _ _ _) (by omega) (by omega) hHeld.size ?_
            intro u1 Wf o1 g1
            have m1 : Nb W4 Wf := hHeld.grown g1 (own_ge o0)
            refine hK.out _ _ m1 (fun hHeld => ?_)
            clear hK K
            simp only [Act.put, List.setIfInBounds_toArray, List.set_cons_zero, List.set_cons_succ]
            replace q0 := grown_blk g1 q0 (fun e => absurd (show Wd.heap.size = We.heap.size from Option.some.inj e) (by omega))
            refine wpAnyH_ready (rs := [7]) (by kernel_rfl) (by simp) (cons_l rfl (by rfl) (fun K hK => ?_) .nil)
            refine wp_app (.tmp 54) (.tmp 56) 22 rfl W4.heap.size 29 i0 _ 17 176 Try.underlying22 hi0 hz0 hz1 hz2 rfl (by decide) _ (0 + 0) ([] ++ []) rfl o1 _ 1 (#[v0, v1, v2, v3, v4, v5, v6, v7, x3, x3, v10, v11, v12, v13, v14, v15, v16]).toList rfl (src_one q0 rfl hon2.out) (by omega) (by omega) hHeld.size ?_
            intro u2 Wy o2 g2
            have m2 : Nb W4 Wy := hHeld.grown g2 (own_ge o1)
            refine hK.out _ _ m2 (fun hHeld => ?_)
            clear hK K
            simp only [Act.put, List.setIfInBounds_toArray, List.set_cons_zero, List.set_cons_succ]
            refine wpAnyH_ready (rs := [11]) (by kernel_rfl) (by simp) (cons_l rfl (by rfl) (fun K hK => ?_) .nil)
            refine wp_app (.tmp 57) (.tmp 60) 22 rfl W4.heap.size 29 i0 _ 17 176 Try.underlying22 hi0 hz0 hz1 hz2 rfl (by decide) _ (0 + 0 + 1) ([] ++ [] ++ (#[v0, v1, v2, v3, v4, v5, v6, v7, x3, x3, v10, v11, v12, v13, v14, v15, v16]).toList) rfl o2 _ 0 [] rfl (src_zero _ _ _) (by omega) (by omega) hHeld.size ?_
            intro u3 Wz o3 g3
            have m3 : Nb W4 Wz := hHeld.grown g3 (own_ge o2)
            refine hK.out _ _ m3 (fun hHeld => ?_)
            clear hK K
            simp only [Act.put, List.setIfInBounds_toArray, List.set_cons_zero, List.set_cons_succ]
            refine take_l (i := 12) (v := u3) rfl (by kernel_rfl) (by kernel_rfl) (by kernel_rfl) (fun _ _ _ h => h) (.inl ⟨by rfl, by intro w' hw; go_simp⟩) hHeld ?_
            simp only [Act.put, List.setIfInBounds_toArray, List.set_cons_zero, List.set_cons_succ]
            refine wpAnyH_done (by kernel_rfl) ?_ _
            go_wp2_with fail
            go_meet
            exact m3
        · refine wp_bs 22 1 #[(0, (.tmp 55))] rfl #[(0, .agg #[v0, v1, v2, v3, v4, v5, v6, v7, x3, x3, v10, v11, v12, v13, v14, v15, v16])] (by kernel_rfl) _ (hbs2.out _) ?_
          refine hK.out _ _ (hHeld.alloc _) (fun hHeld => ?_)
          clear hK K
          simp only [Act.put, List.setIfInBounds_toArray, List.set_cons_zero, List.set_cons_succ]
          have q0 : (Wd.alloc (.cells #[v0, v1, v2, v3, v4, v5, v6, v7, x3, x3, v10, v11, v12, v13, v14, v15, v16] 29)).heap[Wd.heap.size]? = some (.cells #[v0, v1, v2, v3, v4, v5, v6, v7, x3, x3, v10, v11, v12, v13, v14, v15, v16] 29 (0, 0)) := new_blk _ _ rfl
          have ltWe : Wd.heap.size < (Wd.alloc (.cells #[v0, v1, v2, v3, v4, v5, v6, v7, x3, x3, v10, v11, v12, v13, v14, v15, v16] 29)).heap.size := by simp
          generalize Wd.alloc (.cells #[v0, v1, v2, v3, v4, v5, v6, v7, x3, x3, v10, v11, v12, v13, v14, v15, v16] 29) = We at q0 ltWe hHeld ⊢
          refine wpAnyH_ready (rs := [0]) (by kernel_rfl) (by simp) (cons_l rfl (by rfl) (fun K hK => ?_) .nil)
          go_simp
          refine hK.out _ _ (hHeld.alloc _) (fun hHeld => ?_)
          clear hK K
          simp only [Act.put, List.setIfInBounds_toArray, List.set_cons_zero, List.set_cons_succ]
          have o0 : (We.alloc (.cells #[] 29)).ownsRow W4.heap.size 29 17 (.slice (some ⟨We.heap.size, 0, none⟩) 0 0) 0 [] := own0 (new_blk _ _ rfl) (Nat.le_trans hb0 (by omega))
          have ltWg : We.heap.size < (We.alloc (.cells #[] 29)).heap.size := by simp
          replace q0 := old_blk q0 (.cells #[] 29)
          generalize We.alloc (.cells #[] 29) = Wg at o0 ltWg q0 hHeld ⊢
          refine wpAnyH_ready (rs := [4]) (by kernel_rfl) (by simp) (cons_l rfl (by rfl) (fun K hK => ?_) .nil)
          refine wp_app (.tmp 50) (.tmp 53) 22 rfl W4.heap.size 29 i0 _ 17 176 Try.underlying22 hi0 hz0 hz1 hz2 rfl (by decide) _ 0 [] rfl o0 _ 0 [] rfl (src_zero _ _ _) (by omega) (by omega) hHeld.size ?_
          intro u1 Wf o1 g1
          have m1 : Nb W4 Wf := hHeld.grown g1 (own_ge o0)
          refine hK.out _ _ m1 (fun hHeld => ?_)
          clear hK K
          simp only [Act.put, List.setIfInBounds_toArray, List.set_cons_zero, List.set_cons_succ]
          replace q0 := grown_blk g1 q0 (fun e => absurd (show We.heap.size = Wd.heap.size from Option.some.inj e) (by omega))
          refine wpAnyH_ready (rs := [7]) (by kernel_rfl) (by simp) (cons_l rfl (by rfl) (fun K hK => ?_) .nil)
          refine wp_app (.tmp 54) (.tmp 56) 22 rfl W4.heap.size 29 i0 _ 17 176 Try.underlying22 hi0 hz0 hz1 hz2 rfl (by decide) _ (0 + 0) ([] ++ []) rfl o1 _ 1 (#[v0, v1, v2, v3, v4, v5, v6, v7, x3, x3, v10, v11, v12, v13, v14, v15, v16]).toList rfl (src_one q0 rfl hon2.out) (by omega) (by omega) hHeld.size ?_
          intro u2 Wy o2 g2
          have m2 : Nb W4 Wy := hHeld.grown g2 (own_ge o1)
          refine hK.out _ _ m2 (fun hHeld => ?_)
          clear hK K
          simp only [Act.put, List.setIfInBounds_toArray, List.set_cons_zero, List.set_cons_succ]
          refine wpAnyH_ready (rs := [11]) (by kernel_rfl) (by simp) (cons_l rfl (by rfl) (fun K hK => ?_) .nil)
          refine wp_app (.tmp 57) (.tmp 60) 22 rfl W4.heap.size 29 i0 _ 17 176 Try.underlying22 hi0 hz0 hz1 hz2 rfl (by decide) _ (0 + 0 + 1) ([] ++ [] ++ (#[v0, v1, v2, v3, v4, v5, v6, v7, x3, x3, v10, v11, v12, v13, v14, v15, v16]).toList) rfl o2 _ 0 [] rfl (src_zero _ _ _) (by omega) (by omega) hHeld.size ?_
          intro u3 Wz o3 g3
          have m3 : Nb W4 Wz := hHeld.grown g3 (own_ge o2)
          refine hK.out _ _ m3 (fun hHeld => ?_)
          clear hK K
          simp only [Act.put, List.setIfInBounds_toArray, List.set_cons_zero, List.set_cons_succ]
          refine take_l (i := 12) (v := u3) rfl (by kernel_rfl) (by kernel_rfl) (by kernel_rfl) (fun _ _ _ h => h) (.inl ⟨by rfl, by intro w' hw; go_simp⟩) hHeld ?_
          simp only [Act.put, List.setIfInBounds_toArray, List.set_cons_zero, List.set_cons_succ]
          refine wpAnyH_done (by kernel_rfl) ?_ _
          go_wp2_with fail
          go_meet
          exact m3
    case rest =>
      have n5 := hcut
      clear hcut
      have N0 : Nb w wc := n4.trans n5
      clear rF2 hiO hFl2 hon2 hbs2 bF4 hz4 hz2' hx3 x3 iF oF zF k1 n2 hi0 hz0 hz1 hz2 hmx ha r0 n5 n4
      go_wp2_with fail
      refine wp_loop_rounds 2 ?_
      rw [rounds_succ]
      go_wp2_with (go_at_call 7; refine (lives_any _).mono ?_; rintro e wd ⟨rfl, kd⟩)
      go_ret
      exact ⟨rfl, N0.trans kd⟩
end Go.Proofs.Ytpnafbcekihoeaa.orderMore
