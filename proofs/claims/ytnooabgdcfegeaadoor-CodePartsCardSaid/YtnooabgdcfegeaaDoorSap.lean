/-
  Proved here: what a constant's iterator yields, where the number fits 32 bits, but not 12. Conditions: the loop's rounds keep what they promise.
-/
import Derived.Test.YtnooabgdcfegeaaDoorSan
import Derived.Test.YtnooabgdcfegeaaDoorSao
namespace Go.Proofs.YtnooabgdcfegeaaDoor
open Go.RowKit
set_option linter.unusedVariables false
set_option linter.unusedSimpArgs false
set_option maxRecDepth 100000
set_option maxHeartbeats 4000000
theorem drew1c (w : World) : Nb w w.drew := ⟨rfl, rfl, rfl, Nat.le_refl _, fun _ _ => rfl⟩
theorem con_32 (X : Obj → Bool) (hX : XOk X) (R : Nat → Prop) (l N B : Nat) (J Jx : List In7 → World → Prop) (hJ : OwnFrom B J) (hY : YldI X R l N J Jx) (rd v : Int) (h0 : 0 ≤ v) (h1 : v < 18446744073709551616) (hf : FitB (wrap64 v) 12 = false) (hg : FitB (wrap64 v) 32 = true)
    (VB RB : Nat) (hVB : ¬ R VB) (hRB : ¬ R RB) (pre : List In7) (W : World) (hhi : ∀ k, R k → k < W.heap.size) (hV : W.heap[VB]? = some (.cells #[.int .u64 v] 23 (0, 0))) (hR : W.heap[RB]? = some (.cells #[.int .i64 rd] 3 (0, 0))) (hj : J pre W) (hN : pre.length + (luiI rd v :: talI 41 rd v).length ≤ N) :
    Calls Tryd.prog 51 #[.func (.yield l) #[] #[], .pointer (some ⟨VB, 0, none⟩), .pointer (some ⟨RB, 0, none⟩)] W (Went J Jx pre (luiI rd v :: talI 41 rd v)) := by
  have hfit := Lib.hid (fits_any (wrap64 v) 12 (wrap64_r v).1 (wrap64_r v).2)
  rw [hf] at hfit
  have hfit2 := Lib.hid (fits_any (wrap64 v) 32 (wrap64_r v).1 (wrap64_r v).2)
  rw [hg] at hfit2
  have hlow := Lib.hid (low_any v h0 h1)
  have hlui := lui_any rd v h0 h1
  change ∀ w, Calls Tryd.prog 52 #[.int .i64 rd, .int .u64 v] w fun e w' => e = .returned (.agg #[.int .i64 1, .int .i64 rd, .int .i64 0, .int .i64 0, .int .i64 (wrap64 (Sgn (upI v) 32)), .bool false, .bool false]) ∧ Nb w w' at hlui
  replace hlui := Lib.hid hlui
  have hmore := more_any 41 rd v h0 h1
  change ∀ w, Calls Tryd.prog 54 #[.int .i64 41, .int .i64 rd, .int .u64 v] w fun e w' => e = .returned (.agg #[.int .i64 41, .int .i64 rd, .int .i64 rd, .int .i64 0, .int .i64 (wrap64 (Sgn v 12)), .bool false, .bool false]) ∧ Nb w w' at hmore
  replace hmore := Lib.hid hmore
  have hYh := Lib.hid hY
  have hJh := Lib.hid hJ
  have hlen : Hid (pre.length + ([luiI rd v] ++ talI 41 rd v).length ≤ N) := Lib.hid hN
  have hj0 := Lib.hid hj
  clear hf hg hY hJ hN hj
  go_enter Tryd.func51, Tryd.ntmps51
  go_upto_region 1 with (fail)
  obtain ⟨W1, hW1⟩ : ∃ W1, W.alloc (.cells #[.func (.yield l) #[] #[]] 87) = W1 := ⟨_, rfl⟩
  have n1 : Nb W W1 := by rw [← hW1]; exact Below.alloc (Below.refl _ _) (Nat.le_refl _) _
  have b1 : W1.heap[W.heap.size]? = some (.cells #[.func (.yield l) #[] #[]] 87 (0, 0)) := by rw [← hW1]; exact new_bkc _ _ rfl
  rw [hW1]
  clear hW1
  have b2 := n1.block hV
  have b3 := n1.block hR
  clear hV hR
  obtain ⟨YB, hYB⟩ : ∃ B, W.heap.size = B := ⟨_, rfl⟩
  rw [hYB] at b1 hhi ⊢
  replace hhi : ¬ R YB := fun h => by have := hhi _ h; omega
  clear hYB
  have c1 := cell_of_row _ _ 0 _ _ _ b1
  have c2 := cell_of_row _ _ 0 _ _ _ b2
  have c3 := cell_of_row _ _ 0 _ _ _ b3
  go_upto_region 9 with (first
    | (go_at_call 33; refine (hfit.out _).mono ?_; clear hfit; rintro r w' ⟨rfl, hww⟩; subst hww)
    | (go_at_call 33; refine (hfit2.out _).mono ?_; clear hfit2; rintro r w' ⟨rfl, hww⟩; subst hww))
  have hGd : Nb W1 W1.drew := drew1c W1
  refine wp_region_s 1 (by kernel_rfl) ?_
  change wpAnyIn _ _ _ _ _ _ 6 (List.toArray [false, false, false, false, false, false]) _ _
  refine stage (m := 2) (fuel := 4) (List.toArray [true, true, true, true, false, false]) (fun w' => Nb W1 w') hGd (fun hG => ?_)
  refine takeS (i := 0) (v := .func (.yield l) #[] #[]) rfl (by kernel_rfl) (by kernel_rfl) (by kernel_rfl) (by kernel_rfl) (by kernel_rfl) (fun _ _ _ h => h) (.inl ⟨by rfl, by intro w' hw; have hc := hw.cell c1; go_simp⟩) hG ?_
  simp only [Act.put, List.setIfInBounds_toArray, List.set_cons_zero, List.set_cons_succ]
  refine takeS (i := 1) (v := .int .i64 rd) rfl (by kernel_rfl) (by kernel_rfl) (by kernel_rfl) (by kernel_rfl) (by kernel_rfl) (fun _ _ _ h => h) (.inl ⟨by rfl, by intro w' hw; have hc := hw.cell c3; go_simp⟩) hG ?_
  simp only [Act.put, List.setIfInBounds_toArray, List.set_cons_zero, List.set_cons_succ]
  refine takeS (i := 2) (v := .int .u64 v) rfl (by kernel_rfl) (by kernel_rfl) (by kernel_rfl) (by kernel_rfl) (by kernel_rfl) (fun _ _ _ h => h) (.inl ⟨by rfl, by intro w' hw; have hc := hw.cell c2; go_simp⟩) hG ?_
  simp only [Act.put, List.setIfInBounds_toArray, List.set_cons_zero, List.set_cons_succ]
  generalize W1.drew = Wd at hG ⊢
  refine onlyS (i := 3) (by kernel_rfl) rfl (by rfl) (fun K hK => ?_)
  go_simp
  refine ⟨trivial, callsIn_wide.2 ((hlui.out Wd).mono ?_)⟩
  rintro r w5 ⟨rfl, h5⟩
  replace hG := hG.trans h5
  refine hK.out _ _ hG (fun _ => ?_)
  clear hK K
  simp only [Act.put, List.setIfInBounds_toArray, List.set_cons_zero, List.set_cons_succ]
  refine ⟨rfl, ?_⟩
  obtain ⟨fn, tmps, assign, body, hy, hRd⟩ := hYh.out 0 pre (luiI rd v) w5 (wrap64_r _) (own_nb hJh.out hj0.out (n1.trans hG)) (by have := hlen.out; simp at this; omega)
  replace hy : (Instr.yield l #[.agg #[.int .i64 1, .int .i64 rd, .int .i64 0, .int .i64 0, .int .i64 (wrap64 (Sgn (upI v) 32)), .bool false, .bool false]]).run Tryd.prog w5 = .ok (.round l fn tmps assign body) w5 := hy
  refine onlyIn (i := 4) (by kernel_rfl) rfl (by rfl) (fun K hK => ?_)
  go_simp
  refine hRd.mono ?_
  rintro r w6 (⟨rfl, hj6, hk6⟩ | ⟨rfl, hx6, -⟩)
  · refine hK.out _ _ ?_
    clear hK K
    simp only [Act.put, List.setIfInBounds_toArray, List.set_cons_zero, List.set_cons_succ]
    refine stage (m := 0) (fuel := 1) (List.toArray [true, true, true, true, true, true]) (fun _ => True) trivial (fun hT => ?_)
    refine takeS (i := 5) (v := .bool false) rfl (by kernel_rfl) (by kernel_rfl) (by kernel_rfl) (by kernel_rfl) (by kernel_rfl) (fun _ _ _ h => h) (.inl ⟨by rfl, by intro w' hw; go_simp⟩) trivial ?_
    simp only [Act.put, List.setIfInBounds_toArray, List.set_cons_zero, List.set_cons_succ]
    refine ⟨rfl, ?_⟩
    refine wpAnyIn_done (by kernel_rfl) ?_ _
    replace b1 := hk6.block hhi (hG.block b1) (hX.fn _ _)
    replace b2 := hk6.block hVB (hG.block b2) (hX.u64 _ _)
    replace b3 := hk6.block hRB (hG.block b3) (hX.int _ _)
    have hjn := hj6
    clear hj6 hk6 hG n1 hGd c1 c2 c3 hy hRd h5
    by_cases hz : Sgn v 12 = 0
    case pos =>
      have t1 : (Sgn v 12 == 0) = true := beq_iff_eq.2 hz
      have t2 : (Sgn v 12 != 0) = false := by rw [bne, t1]; rfl
      have hL := Lib.hid hz
      clear hz
      replace hjn := Lib.hid hjn
      have c1 := cell_of_row _ _ 0 _ _ _ b1
      have c2 := cell_of_row _ _ 0 _ _ _ b2
      have c3 := cell_of_row _ _ 0 _ _ _ b3
      go_wp2_with (go_at_call 53; refine (hlow.out _).mono ?_; rintro r w' ⟨rfl, rfl⟩)
      go_end0
      exact ⟨⟨_, rfl⟩, .inl (by unfold talI; rw [if_pos hL.out]; simpa using hjn.out)⟩
    case neg =>
    have t1 : (Sgn v 12 == 0) = false := beq_false_of_ne hz
    have t2 : (Sgn v 12 != 0) = true := by rw [bne, t1]; rfl
    have hL := Lib.hid hz
    clear hz
    obtain ⟨V, hVe⟩ : ∃ V, w6 = V := ⟨_, rfl⟩
    rw [hVe] at b1 b2 b3 hjn ⊢
    clear hVe
    replace hjn := Lib.hid hjn
    have hV1 : V = V := rfl
    have c1 := cell_of_row _ _ 0 _ _ _ b1
    have c2 := cell_of_row _ _ 0 _ _ _ b2
    have c3 := cell_of_row _ _ 0 _ _ _ b3
    go_upto_region 12 with (go_at_call 53; refine (hlow.out _).mono ?_; rintro r w' ⟨rfl, hww⟩; obtain rfl := hww.symm)
    have hGd : Nb V V.drew := drew1c V
    refine wp_region_s 1 (by kernel_rfl) ?_
    change wpAnyIn _ _ _ _ _ _ 6 (List.toArray [false, false, false, false, false, false]) _ _
    refine stage (m := 1) (fuel := 5) (List.toArray [true, true, true, true, true, false]) (fun w' => Nb V w') hGd (fun hG => ?_)
    refine takeS (i := 0) (v := .func (.yield l) #[] #[]) rfl (by kernel_rfl) (by kernel_rfl) (by kernel_rfl) (by kernel_rfl) (by kernel_rfl) (fun _ _ _ h => h) (.inl ⟨by rfl, by intro w' hw; have hc := hw.cell c1; go_simp⟩) hG ?_
    simp only [Act.put, List.setIfInBounds_toArray, List.set_cons_zero, List.set_cons_succ]
    refine takeS (i := 1) (v := .int .i64 41) rfl (by kernel_rfl) (by kernel_rfl) (by kernel_rfl) (by kernel_rfl) (by kernel_rfl) (fun _ _ _ h => h) (.inl ⟨by rfl, by intro w' hw; go_simp⟩) hG ?_
    simp only [Act.put, List.setIfInBounds_toArray, List.set_cons_zero, List.set_cons_succ]
    refine takeS (i := 2) (v := .int .i64 rd) rfl (by kernel_rfl) (by kernel_rfl) (by kernel_rfl) (by kernel_rfl) (by kernel_rfl) (fun _ _ _ h => h) (.inl ⟨by rfl, by intro w' hw; have hc := hw.cell c3; go_simp⟩) hG ?_
    simp only [Act.put, List.setIfInBounds_toArray, List.set_cons_zero, List.set_cons_succ]
    refine takeS (i := 3) (v := .int .u64 v) rfl (by kernel_rfl) (by kernel_rfl) (by kernel_rfl) (by kernel_rfl) (by kernel_rfl) (fun _ _ _ h => h) (.inl ⟨by rfl, by intro w' hw; have hc := hw.cell c2; go_simp⟩) hG ?_
    simp only [Act.put, List.setIfInBounds_toArray, List.set_cons_zero, List.set_cons_succ]
    generalize V.drew = Wd at hG ⊢
    refine onlyS (i := 4) (by kernel_rfl) rfl (by rfl) (fun K hK => ?_)
    go_simp
    refine ⟨trivial, callsIn_wide.2 ((hmore.out Wd).mono ?_)⟩
    rintro r w7 ⟨rfl, h7⟩
    replace hG := hG.trans h7
    refine hK.out _ _ hG (fun _ => ?_)
    clear hK K
    simp only [Act.put, List.setIfInBounds_toArray, List.set_cons_zero, List.set_cons_succ]
    refine ⟨rfl, ?_⟩
    obtain ⟨fn, tmps, assign, body, hy, hRd⟩ := hYh.out 0 _ (morI 41 rd v) w7 (wrap64_r _) (own_nb hJh.out hjn.out hG) (by have := hlen.out; unfold talI at this; rw [if_neg hL.out] at this; simp at this ⊢; omega)
    replace hy : (Instr.yield l #[.agg #[.int .i64 41, .int .i64 rd, .int .i64 rd, .int .i64 0, .int .i64 (wrap64 (Sgn v 12)), .bool false, .bool false]]).run Tryd.prog w7 = .ok (.round l fn tmps assign body) w7 := hy
    refine onlyIn (i := 5) (by kernel_rfl) rfl (by rfl) (fun K hK => ?_)
    go_simp
    refine hRd.mono ?_
    rintro r w8 (⟨rfl, hj8, hk8⟩ | ⟨rfl, hx8, -⟩)
    · refine hK.out _ _ ?_
      clear hK K
      simp only [Act.put, List.setIfInBounds_toArray, List.set_cons_zero, List.set_cons_succ]
      refine wpAnyIn_done (by kernel_rfl) ?_ _
      go_wp2_with fail
      go_end0
      exact ⟨⟨_, rfl⟩, .inl (by unfold talI; rw [if_neg hL.out]; simpa [List.append_assoc] using hj8)⟩
    · refine hK.out _ _ ?_
      clear hK K
      simp only [Act.put, List.setIfInBounds_toArray, List.set_cons_zero, List.set_cons_succ]
      refine wpAnyIn_done (by kernel_rfl) ?_ _
      go_wp2_with fail
      go_end0
      exact ⟨⟨_, rfl⟩, .inr ⟨[luiI rd v] ++ [morI 41 rd v], by unfold talI; rw [if_neg hL.out]; first | exact List.prefix_refl _ | simp, by simpa [List.append_assoc] using hx8⟩⟩
  · refine hK.out _ _ ?_
    clear hK K
    simp only [Act.put, List.setIfInBounds_toArray, List.set_cons_zero, List.set_cons_succ]
    refine stage (m := 0) (fuel := 1) (List.toArray [true, true, true, true, true, true]) (fun _ => True) trivial (fun hT => ?_)
    refine takeS (i := 5) (v := .bool true) rfl (by kernel_rfl) (by kernel_rfl) (by kernel_rfl) (by kernel_rfl) (by kernel_rfl) (fun _ _ _ h => h) (.inl ⟨by rfl, by intro w' hw; go_simp⟩) trivial ?_
    simp only [Act.put, List.setIfInBounds_toArray, List.set_cons_zero, List.set_cons_succ]
    refine ⟨rfl, ?_⟩
    refine wpAnyIn_done (by kernel_rfl) ?_ _
    go_wp2_with fail
    go_end0
    exact ⟨⟨_, rfl⟩, .inr ⟨[luiI rd v], by simp, hx6⟩⟩
end Go.Proofs.YtnooabgdcfegeaaDoor
