/-
  Proved here: of the reference: how deep a tree's bodies are, and the tree. Conditions: the memory holds them.
-/
import Derived.Test.YtojogolmcclpoaaDoorSao
namespace Go.Proofs.YtojogolmcclpoaaDoor
open Go.RowKit
set_option linter.unusedVariables false
set_option linter.unusedSimpArgs false
set_option maxRecDepth 100000
set_option maxHeartbeats 4000000
theorem dpB_le : ∀ (k : Nat) (e : Bd), dpB k e ≤ k
  | 0, _ => Nat.le_refl _
  | k + 1, e => by
    have h1 := dpEs_le k e.args
    have h2 := maxL_le (l := e.stmts.map fun s => dpEs k s.args) (k := k) (fun x hx => by obtain ⟨y, _, rfl⟩ := List.mem_map.1 hx; exact dpEs_le k y.args)
    have h3 := maxL_le (l := e.parts.map (dpB k)) (k := k) (fun x hx => by obtain ⟨y, _, rfl⟩ := List.mem_map.1 hx; exact dpB_le k y)
    have h4 := maxL_le (l := e.arms.map fun m => max (dpE k m.pat) (max (dpEs k m.guard) (dpB k m.body))) (k := k) (fun x hx => by
      obtain ⟨y, _, rfl⟩ := List.mem_map.1 hx
      have a1 := dpE_le k y.pat
      have a2 := dpEs_le k y.guard
      have a3 := dpB_le k y.body
      omega)
    show 1 + max (dpEs k e.args) (max (maxL (e.stmts.map fun s => dpEs k s.args)) (max (maxL (e.parts.map (dpB k))) (maxL (e.arms.map fun m => max (dpE k m.pat) (max (dpEs k m.guard) (dpB k m.body)))))) ≤ k + 1
    omega
theorem one_exs {w : World} {e : Ex} (h : e.Has w) {g : Nat} {t : TypeId} (hb : w.heap[g]? = some (.cells e.cells.toArray t (0, 0))) : ExsHas w (.slice (some ⟨g, 0, none⟩) 1 1) [e] := by
  refine ⟨⟨_, 1, rfl, Nat.le_refl _, by simp, (fun h => nomatch h), fun i r hi => ?_⟩, fun x hx => ?_⟩
  · cases i with
    | zero =>
      simp only [List.map_cons, List.map_nil, List.getElem?_cons_zero, Option.some.injEq] at hi
      subst hi
      refine ⟨g, 0, rfl, fun j u hu => ?_⟩
      rw [cell_of_row _ _ _ _ _ _ hb]
      simpa using hu
    | succ i => simp at hi
  · rw [List.mem_singleton] at hx
    subst hx
    exact h
theorem dp_one (k : Nat) (e : Ex) : dpEs k [e] = dpE k e := by show max (dpE k e) 0 = _; omega
theorem dbody_any (W0 : World) : ∀ k : Nat, k ≤ 65 → ∀ (e : Bd), e.Has W0 → ∀ (w : World), Nb W0 w →
    Calls Tryd.prog 21 #[.agg #[], .agg e.cells.toArray, .int .i64 (k : Int)] w fun r w' => r = .returned (.int .i64 (dpB k e : Nat)) ∧ Nb w w' := by
  intro k
  induction k with
  | zero =>
    intro _ e he w hw
    go_enter Tryd.func21, Tryd.ntmps21
    go_upto_region 1 with (fail)
    obtain ⟨W1, hW⟩ : ∃ W1, (w.alloc (Obj.cells #[] 61)).alloc (Obj.cells e.cells.toArray 44) = W1 := ⟨_, rfl⟩
    have n1 : Nb w W1 := by rw [← hW]; exact ((Nb.refl w).alloc _).alloc _
    rw [hW]
    clear hW
    go_wp2_with fail
    go_ret
    exact ⟨rfl, n1⟩
  | succ k ih =>
    intro hk e he w hw
    rw [show ((k + 1 : Nat) : Int) = (k : Int) + 1 by omega]
    obtain ⟨S0, hS0⟩ : ∃ S, dpEs k e.args = S := ⟨_, rfl⟩
    obtain ⟨L1, hL1⟩ : ∃ L, (e.stmts.map fun s => dpEs k s.args) = L := ⟨_, rfl⟩
    obtain ⟨L2, hL2⟩ : ∃ L, e.parts.map (dpB k) = L := ⟨_, rfl⟩
    obtain ⟨L3, hL3⟩ : ∃ L, (e.arms.map fun m => max (dpE k m.pat) (max (dpEs k m.guard) (dpB k m.body))) = L := ⟨_, rfl⟩
    have hle := dpB_le (k + 1) e
    have hsz : dpB (k + 1) e = 1 + max S0 (max (maxL L1) (max (maxL L2) (maxL L3))) := by rw [← hS0, ← hL1, ← hL2, ← hL3]; rfl
    rw [hsz] at hle ⊢
    obtain ⟨T, hT⟩ : ∃ T, max S0 (max (maxL L1) (max (maxL L2) (maxL L3))) = T := ⟨_, rfl⟩
    rw [hT] at hle ⊢
    clear hsz
    have hL1 := Lib.hid hL1
    have hL2 := Lib.hid hL2
    have hL3 := Lib.hid hL3
    have hT := Lib.hid hT
    have hk0 : ¬ (k : Int) + 1 = 0 := by omega
    have hS0k : S0 ≤ k := by rw [← hS0]; exact dpEs_le k e.args
    have wk : IntKind.i64.wrap (k : Int) = (k : Int) := by rw [IntKind.wrap_i64]; omega
    go_enter Tryd.func21, Tryd.ntmps21
    go_upto_region 1 with (fail)
    obtain ⟨W1, hW⟩ : ∃ W1, (w.alloc (Obj.cells #[] 61)).alloc (Obj.cells e.cells.toArray 44) = W1 := ⟨_, rfl⟩
    have n1 : Nb w W1 := by rw [← hW]; exact ((Nb.refl w).alloc _).alloc _
    have a1 : W1.heap[w.heap.size]? = some (.cells #[] 61 (0, 0)) := by rw [← hW]; exact old_blk (new_blk w _ rfl) _
    have b1 : W1.heap[w.heap.size + 1]? = some (.cells e.cells.toArray 44 (0, 0)) := by rw [← hW]; exact new_blk _ _ (by rw [World.size_alloc])
    rw [hW]
    clear hW
    have hl0 : (loadVar 61 ⟨w.heap.size, 0, none⟩).run Tryd.prog W1 = .ok (.agg #[]) W1 := run_loadVar_row _ _ _ _ _ _ _ a1 Tryd.underlying61 rfl (by kernel_rfl)
    have q4 : W1.cell? ⟨w.heap.size + 1, 4, none⟩ = some e.av := cell_of_row _ _ 4 _ _ _ b1
    have hargs := Lib.hid (dexprs_any W0 k (by omega) e.av e.args he.exs W1 (hw.trans n1))
    rw [hS0] at hargs
    clear hS0
    go_upto_region 4 with (go_at_call 20; refine (hargs.out).mono ?_; rintro r w3 ⟨rfl, g3⟩)
    obtain ⟨A1, cap1, hav1, hcap1, hlen1, hz1⟩ := he.srow.1.head
    have hX1 := Lib.hid (show RowS W0 5 (.slice A1 (e.stmts.map St.cells).length cap1) (e.stmts.map St.cells) by rw [← hav1]; exact he.srow.1)
    have hK1 := Lib.hid he.srow.2
    rw [List.length_map] at hav1 hcap1 hlen1 hX1
    obtain ⟨M1, hM1⟩ : ∃ N, e.stmts.length = N := ⟨_, rfl⟩
    have hMh1 := Lib.hid hM1
    rw [hM1] at hav1 hcap1 hlen1 hX1
    have hav1 := Lib.hid hav1
    have a3 := g3.block a1
    have b3' := g3.block b1
    have n3 := n1.trans g3
    have hT1 := Lib.hid (show max S0 (max (maxL (L1.drop 0)) (max (maxL L2) (maxL L3))) = T by rw [List.drop_zero]; exact hT.out)
    clear hM1 a1 b1 hl0 q4 hargs g3 n1
    go_wp2_with fail
    go_loopw [7, 8] (fun sd si wr => ∃ i d : Nat, i ≤ M1 ∧ d ≤ k ∧ sd = .int .i64 d ∧ si = .int .i64 i ∧ Hid (max d (max (maxL (L1.drop i)) (max (maxL L2) (maxL L3))) = T) ∧ Nb w3 wr) (fun _ si _ => M1 - (intOf si).toNat)
    case atStart => exact ⟨0, S0, Nat.zero_le _, hS0k, rfl, rfl, hT1, Nb.refl _⟩
    case round =>
      obtain ⟨i, d, hi, hd, rfl, rfl, hR, hg3⟩ := hrel
      have b3 := hg3.block a3
      have b4 := hg3.block b3'
      have q4 : wr.cell? ⟨w.heap.size + 1, 0, none⟩ = some (.slice A1 M1 cap1) := (cell_of_row _ _ 0 _ _ _ b4).trans (congrArg some hav1.out)
      by_cases hlt2 : i < M1
      · have hlt3 : (i : Int) < (M1 : Int) := by omega
        obtain ⟨x, hx⟩ : ∃ x, e.stmts[i]? = some x := ⟨_, List.getElem?_eq_getElem (by rw [hMh1.out]; exact hlt2)⟩
        obtain ⟨b, o, rfl, hxc⟩ := hX1.out.at_ (i := i) (r := x.cells) (by rw [List.getElem?_map, hx]; rfl)
        have hnb : Nb W0 wr := hw.trans (n3.trans hg3)
        have hxs : maxL (L1.drop i) = max (dpEs k x.args) (maxL (L1.drop (i + 1))) := max_drop (by rw [← hL1.out, List.getElem?_map, hx]; rfl)
        have hxh := (hK1.out x (List.mem_of_getElem? hx)).args
        have hih := Lib.hid (fun w5 (h5 : Nb W0 w5) => dexprs_any W0 k (by omega) x.av x.args hxh w5 h5)
        have hle2 := dpEs_le k x.args
        have hR2 := Lib.hid (show max (max d (dpEs k x.args)) (max (maxL (L1.drop (i + 1))) (max (maxL L2) (maxL L3))) = T by rw [← hR.out, hxs]; omega)
        have x4 := hnb.cell (hxc 4 _ rfl)
        generalize dpEs k x.args = D at hih hle2 hR2
        clear hx hxc hxh hR hxs
        go_upto_region 7 with (fail)
        refine wp_region_late [] (fun _ => True) (fun w' => Nb wr w') (by kernel_rfl) ⟨fun _ => trivial, (Nb.refl wr).drew1'⟩ (fun _ => ?_)
        change wpAnyL _ _ _ _ _ _ _ 13 (List.toArray [false, false, false, false, false, false, false, false, false, false, false, false, false]) _ _
        have hG : Nb wr wr.drew := (Nb.refl wr).drew1'
        refine takeG_l (i := 0) (v := .int .i64 (d : Int)) rfl (by kernel_rfl) (by kernel_rfl) (by kernel_rfl) (by rfl) (fun _ _ _ h => h) (.inl ⟨by rfl, by intro w' hw; go_simp⟩) ⟨fun _ => trivial, hG⟩ ?_
        simp only [Act.put, List.setIfInBounds_toArray, List.set_cons_zero, List.set_cons_succ]
        refine takeG_l (i := 1) (v := .agg #[]) rfl (by kernel_rfl) (by kernel_rfl) (by kernel_rfl) (by rfl) (fun _ _ _ h => h) (yields_load (by rfl) 61 (.tmp 3) rfl _ rfl _ (fun w' hw => run_loadVar_row _ _ _ _ _ _ _ (hw.block b3) Tryd.underlying61 rfl (by kernel_rfl))) ⟨fun _ => trivial, hG⟩ ?_
        simp only [Act.put, List.setIfInBounds_toArray, List.set_cons_zero, List.set_cons_succ]
        refine takeG_l (i := 2) (v := .pointer (some ⟨w.heap.size + 1, 0, none⟩)) rfl (by kernel_rfl) (by kernel_rfl) (by kernel_rfl) (by rfl) (fun _ _ _ h => h) (.inl ⟨by rfl, by intro w' hw; go_simp⟩) ⟨fun _ => trivial, hG⟩ ?_
        simp only [Act.put, List.setIfInBounds_toArray, List.set_cons_zero, List.set_cons_succ]
        refine takeG_l (i := 3) (v := .slice (some ⟨b, o, none⟩) M1 cap1) rfl (by kernel_rfl) (by kernel_rfl) (by kernel_rfl) (by rfl) (fun _ _ _ h => h) (.inl ⟨by rfl, by intro w' hw; have hc := Nb.cell hw q4; go_simp⟩) ⟨fun _ => trivial, hG⟩ ?_
        simp only [Act.put, List.setIfInBounds_toArray, List.set_cons_zero, List.set_cons_succ]
        refine takeG_l (i := 4) (v := .int .i64 (i : Int)) rfl (by kernel_rfl) (by kernel_rfl) (by kernel_rfl) (by rfl) (fun _ _ _ h => h) (.inl ⟨by rfl, by intro w' hw; go_simp⟩) ⟨fun _ => trivial, hG⟩ ?_
        simp only [Act.put, List.setIfInBounds_toArray, List.set_cons_zero, List.set_cons_succ]
        refine takeG_l (i := 5) (v := .pointer (some ⟨b, o + i * 5, none⟩)) rfl (by kernel_rfl) (by kernel_rfl) (by kernel_rfl) (by rfl) (fun _ _ _ h => h) (.inl ⟨by rfl, by intro w' hw; go_simp⟩) ⟨fun _ => trivial, hG⟩ ?_
        simp only [Act.put, List.setIfInBounds_toArray, List.set_cons_zero, List.set_cons_succ]
        refine takeG_l (i := 6) (v := .pointer (some ⟨b, o + i * 5 + 4, none⟩)) rfl (by kernel_rfl) (by kernel_rfl) (by kernel_rfl) (by rfl) (fun _ _ _ h => h) (.inl ⟨by rfl, by intro w' hw; go_simp⟩) ⟨fun _ => trivial, hG⟩ ?_
        simp only [Act.put, List.setIfInBounds_toArray, List.set_cons_zero, List.set_cons_succ]
        refine takeG_l (i := 7) (v := x.av) rfl (by kernel_rfl) (by kernel_rfl) (by kernel_rfl) (by rfl) (fun _ _ _ h => h) (.inl ⟨by rfl, by intro w' hw; have hc := Nb.cell hw x4; go_simp⟩) ⟨fun _ => trivial, hG⟩ ?_
        simp only [Act.put, List.setIfInBounds_toArray, List.set_cons_zero, List.set_cons_succ]
        refine takeG_l (i := 8) (v := .int .i64 ((k : Int) + 1)) rfl (by kernel_rfl) (by kernel_rfl) (by kernel_rfl) (by rfl) (fun _ _ _ h => h) (.inl ⟨by rfl, by intro w' hw; go_simp⟩) ⟨fun _ => trivial, hG⟩ ?_
        simp only [Act.put, List.setIfInBounds_toArray, List.set_cons_zero, List.set_cons_succ]
        refine takeG_l (i := 9) (v := .int .i64 (k : Int)) rfl (by kernel_rfl) (by kernel_rfl) (by kernel_rfl) (by rfl) (fun _ _ _ h => h) (.inl ⟨by rfl, by intro w' hw; go_simp⟩) ⟨fun _ => trivial, hG⟩ ?_
        simp only [Act.put, List.setIfInBounds_toArray, List.set_cons_zero, List.set_cons_succ]
        generalize wr.drew = Wd at hG ⊢
        refine onlyL_l (i := 10) (by kernel_rfl) rfl (by rfl) (fun K hK => ?_)
        go_simp
        refine (hih.out _ (hnb.trans hG)).mono ?_
        rintro r w5 ⟨rfl, hn1⟩
        replace hG := hG.trans hn1
        refine hK.out _ _ ⟨fun _ => trivial, hG⟩ (fun _ => ?_)
        clear hK K
        simp only [Act.put, List.setIfInBounds_toArray, List.set_cons_zero, List.set_cons_succ]
        refine takeG_l (i := 11) (v := .int .i64 ((max d D : Nat) : Int)) rfl (by kernel_rfl) (by kernel_rfl) (by kernel_rfl) (by rfl) (fun _ _ _ h => h) (.inl ⟨by rfl, by intro w' hw; go_simp; (first | done | (split <;> omega))⟩) ⟨fun _ => trivial, hG⟩ ?_
        simp only [Act.put, List.setIfInBounds_toArray, List.set_cons_zero, List.set_cons_succ]
        refine takeG_l (i := 12) (v := .int .i64 ((max d D : Nat) : Int)) rfl (by kernel_rfl) (by kernel_rfl) (by kernel_rfl) (by rfl) (fun _ _ _ h => h) (.inl ⟨by rfl, by intro w' hw; go_simp⟩) ⟨fun _ => trivial, hG⟩ ?_
        simp only [Act.put, List.setIfInBounds_toArray, List.set_cons_zero, List.set_cons_succ]
        refine doneL (by kernel_rfl) ?_ _
        go_wp2_with fail
        exact ⟨⟨i + 1, max d D, by omega, by omega, rfl, by simp, hR2, hg3.trans hG⟩, by simp [intOf] <;> omega⟩
      · obtain rfl : i = M1 := by omega
        have hT2 := Lib.hid (show max d (max (maxL (L2.drop 0)) (maxL L3)) = T by
          have := hR.out
          rw [List.drop_eq_nil_of_le (by rw [← hL1.out, List.length_map, hMh1.out]; exact Nat.le_refl _)] at this
          rw [List.drop_zero, ← this]
          show _ = max d (max 0 _)
          omega)
        have n4 := n3.trans hg3
        obtain ⟨A2, cap2, hav2, hcap2, hlen2, hz2⟩ := he.prow.1.head
        have hX2 := Lib.hid (show RowS W0 9 (.slice A2 (e.parts.map Bd.cells).length cap2) (e.parts.map Bd.cells) by rw [← hav2]; exact he.prow.1)
        have hK2 := Lib.hid he.prow.2
        rw [List.length_map] at hav2 hcap2 hlen2 hX2
        obtain ⟨M2, hM2⟩ : ∃ N, e.parts.length = N := ⟨_, rfl⟩
        have hMh2 := Lib.hid hM2
        rw [hM2] at hav2 hcap2 hlen2 hX2
        have hav2 := Lib.hid hav2
        have a4 := b3
        have b4' := b4
        obtain ⟨Wa, rfl⟩ : ∃ Wa : World, Wa = wr := ⟨_, rfl⟩
        clear hM2 hR hX1 hK1 hz1 hz2 hcap1 hlen1 n3
        go_wp2_with fail
        go_loopw [7, 9] (fun sd si wr => ∃ i d : Nat, i ≤ M2 ∧ d ≤ k ∧ sd = .int .i64 d ∧ si = .int .i64 i ∧ Hid (max d (max (maxL (L2.drop i)) (maxL L3)) = T) ∧ Nb Wa wr) (fun _ si _ => M2 - (intOf si).toNat)
        case atStart => exact ⟨0, d, Nat.zero_le _, hd, rfl, rfl, hT2, Nb.refl _⟩
        case round =>
          clear b3 b4 q4
          obtain ⟨i2, d2, hi2, hd2, rfl, rfl, hR2, hg5⟩ := hrel
          have b3 := hg5.block a4
          have b5 := hg5.block b4'
          have q5 : wr.cell? ⟨w.heap.size + 1, 5, none⟩ = some (.slice A2 M2 cap2) := (cell_of_row _ _ 5 _ _ _ b5).trans (congrArg some hav2.out)
          by_cases hlt4 : i2 < M2
          · have hlt5 : (i2 : Int) < (M2 : Int) := by omega
            obtain ⟨x, hx⟩ : ∃ x, e.parts[i2]? = some x := ⟨_, List.getElem?_eq_getElem (by rw [hMh2.out]; exact hlt4)⟩
            obtain ⟨b, o, rfl, hxc⟩ := hX2.out.at_ (i := i2) (r := x.cells) (by rw [List.getElem?_map, hx]; rfl)
            have hnb : Nb W0 wr := hw.trans (n4.trans hg5)
            have hxs : maxL (L2.drop i2) = max (dpB k x) (maxL (L2.drop (i2 + 1))) := max_drop (by rw [← hL2.out, List.getElem?_map, hx]; rfl)
            have hxh := hK2.out x (List.mem_of_getElem? hx)
            have hih := Lib.hid (fun w5 (h5 : Nb W0 w5) => ih (by omega) x hxh w5 h5)
            have hle2 := dpB_le k x
            have hR3 := Lib.hid (show max (max d2 (dpB k x)) (max (maxL (L2.drop (i2 + 1))) (maxL L3)) = T by rw [← hR2.out, hxs]; omega)
            have y0 := hnb.cell (hxc 0 _ rfl)
            have y1 := hnb.cell (hxc 1 _ rfl)
            have y2 := hnb.cell (hxc 2 _ rfl)
            have y3 := hnb.cell (hxc 3 _ rfl)
            have y4 := hnb.cell (hxc 4 _ rfl)
            have y5 := hnb.cell (hxc 5 _ rfl)
            have y6 := hnb.cell (hxc 6 _ rfl)
            have y7 := hnb.cell (hxc 7 _ rfl)
            have y8 := hnb.cell (hxc 8 _ rfl)
            simp only [Nat.add_zero] at y0
            generalize dpB k x = D at hih hle2 hR3
            clear hx hxc hxh hR2 hxs
            go_upto_region 11 with (fail)
            refine wp_region_late [] (fun _ => True) (fun w' => Nb wr w') (by kernel_rfl) ⟨fun _ => trivial, (Nb.refl wr).drew1'⟩ (fun _ => ?_)
            change wpAnyL _ _ _ _ _ _ _ 12 (List.toArray [false, false, false, false, false, false, false, false, false, false, false, false]) _ _
            have hG : Nb wr wr.drew := (Nb.refl wr).drew1'
            refine takeG_l (i := 0) (v := .int .i64 (d2 : Int)) rfl (by kernel_rfl) (by kernel_rfl) (by kernel_rfl) (by rfl) (fun _ _ _ h => h) (.inl ⟨by rfl, by intro w' hw; go_simp⟩) ⟨fun _ => trivial, hG⟩ ?_
            simp only [Act.put, List.setIfInBounds_toArray, List.set_cons_zero, List.set_cons_succ]
            refine takeG_l (i := 1) (v := .agg #[]) rfl (by kernel_rfl) (by kernel_rfl) (by kernel_rfl) (by rfl) (fun _ _ _ h => h) (yields_load (by rfl) 61 (.tmp 3) rfl _ rfl _ (fun w' hw => run_loadVar_row _ _ _ _ _ _ _ (hw.block b3) Tryd.underlying61 rfl (by kernel_rfl))) ⟨fun _ => trivial, hG⟩ ?_
            simp only [Act.put, List.setIfInBounds_toArray, List.set_cons_zero, List.set_cons_succ]
            refine takeG_l (i := 2) (v := .pointer (some ⟨w.heap.size + 1, 5, none⟩)) rfl (by kernel_rfl) (by kernel_rfl) (by kernel_rfl) (by rfl) (fun _ _ _ h => h) (.inl ⟨by rfl, by intro w' hw; go_simp⟩) ⟨fun _ => trivial, hG⟩ ?_
            simp only [Act.put, List.setIfInBounds_toArray, List.set_cons_zero, List.set_cons_succ]
            refine takeG_l (i := 3) (v := .slice (some ⟨b, o, none⟩) M2 cap2) rfl (by kernel_rfl) (by kernel_rfl) (by kernel_rfl) (by rfl) (fun _ _ _ h => h) (.inl ⟨by rfl, by intro w' hw; have hc := Nb.cell hw q5; go_simp⟩) ⟨fun _ => trivial, hG⟩ ?_
            simp only [Act.put, List.setIfInBounds_toArray, List.set_cons_zero, List.set_cons_succ]
            refine takeG_l (i := 4) (v := .int .i64 (i2 : Int)) rfl (by kernel_rfl) (by kernel_rfl) (by kernel_rfl) (by rfl) (fun _ _ _ h => h) (.inl ⟨by rfl, by intro w' hw; go_simp⟩) ⟨fun _ => trivial, hG⟩ ?_
            simp only [Act.put, List.setIfInBounds_toArray, List.set_cons_zero, List.set_cons_succ]
            refine takeG_l (i := 5) (v := .pointer (some ⟨b, o + i2 * 9, none⟩)) rfl (by kernel_rfl) (by kernel_rfl) (by kernel_rfl) (by rfl) (fun _ _ _ h => h) (.inl ⟨by rfl, by intro w' hw; go_simp⟩) ⟨fun _ => trivial, hG⟩ ?_
            simp only [Act.put, List.setIfInBounds_toArray, List.set_cons_zero, List.set_cons_succ]
            refine takeG_l (i := 6) (v := .agg #[x.sv, .int .i64 x.kind, .int .i64 x.at_, sV x.actor, x.av, x.pv, x.mv, .bool x.late, .int .i64 x.after]) rfl (by kernel_rfl) (by kernel_rfl) (by kernel_rfl) (by rfl) (fun _ _ _ h => h) (.inl ⟨by rfl, by intro w' hw; have h0 := Nb.cell hw y0; have h1 := Nb.cell hw y1; have h2 := Nb.cell hw y2; have h3 := Nb.cell hw y3; have h4 := Nb.cell hw y4; have h5 := Nb.cell hw y5; have h6 := Nb.cell hw y6; have h7 := Nb.cell hw y7; have h8 := Nb.cell hw y8; go_simp⟩) ⟨fun _ => trivial, hG⟩ ?_
            simp only [Act.put, List.setIfInBounds_toArray, List.set_cons_zero, List.set_cons_succ]
            refine takeG_l (i := 7) (v := .int .i64 ((k : Int) + 1)) rfl (by kernel_rfl) (by kernel_rfl) (by kernel_rfl) (by rfl) (fun _ _ _ h => h) (.inl ⟨by rfl, by intro w' hw; go_simp⟩) ⟨fun _ => trivial, hG⟩ ?_
            simp only [Act.put, List.setIfInBounds_toArray, List.set_cons_zero, List.set_cons_succ]
            refine takeG_l (i := 8) (v := .int .i64 (k : Int)) rfl (by kernel_rfl) (by kernel_rfl) (by kernel_rfl) (by rfl) (fun _ _ _ h => h) (.inl ⟨by rfl, by intro w' hw; go_simp⟩) ⟨fun _ => trivial, hG⟩ ?_
            simp only [Act.put, List.setIfInBounds_toArray, List.set_cons_zero, List.set_cons_succ]
            generalize wr.drew = Wd at hG ⊢
            refine onlyL_l (i := 9) (by kernel_rfl) rfl (by rfl) (fun K hK => ?_)
            go_simp
            refine (hih.out _ (hnb.trans hG)).mono ?_
            rintro r w5 ⟨rfl, hn1⟩
            replace hG := hG.trans hn1
            refine hK.out _ _ ⟨fun _ => trivial, hG⟩ (fun _ => ?_)
            clear hK K
            simp only [Act.put, List.setIfInBounds_toArray, List.set_cons_zero, List.set_cons_succ]
            refine takeG_l (i := 10) (v := .int .i64 ((max d2 D : Nat) : Int)) rfl (by kernel_rfl) (by kernel_rfl) (by kernel_rfl) (by rfl) (fun _ _ _ h => h) (.inl ⟨by rfl, by intro w' hw; go_simp; (first | done | (split <;> omega))⟩) ⟨fun _ => trivial, hG⟩ ?_
            simp only [Act.put, List.setIfInBounds_toArray, List.set_cons_zero, List.set_cons_succ]
            refine takeG_l (i := 11) (v := .int .i64 ((max d2 D : Nat) : Int)) rfl (by kernel_rfl) (by kernel_rfl) (by kernel_rfl) (by rfl) (fun _ _ _ h => h) (.inl ⟨by rfl, by intro w' hw; go_simp⟩) ⟨fun _ => trivial, hG⟩ ?_
            simp only [Act.put, List.setIfInBounds_toArray, List.set_cons_zero, List.set_cons_succ]
            refine doneL (by kernel_rfl) ?_ _
            go_wp2_with fail
            exact ⟨⟨i2 + 1, max d2 D, by omega, by omega, rfl, by simp, hR3, hg5.trans hG⟩, by simp [intOf] <;> omega⟩
          · obtain rfl : i2 = M2 := by omega
            have hT3 := Lib.hid (show max d2 (maxL (L3.drop 0)) = T by
              have := hR2.out
              rw [List.drop_eq_nil_of_le (by rw [← hL2.out, List.length_map, hMh2.out]; exact Nat.le_refl _)] at this
              rw [List.drop_zero, ← this]
              show _ = max d2 (max 0 _)
              omega)
            have n5 := n4.trans hg5
            obtain ⟨A3, cap3, hav3, hcap3, hlen3, hz3⟩ := he.mrow.1.head
            have hX3 := Lib.hid (show RowS W0 15 (.slice A3 (e.arms.map Am.cells).length cap3) (e.arms.map Am.cells) by rw [← hav3]; exact he.mrow.1)
            have hK3 := Lib.hid he.mrow.2
            rw [List.length_map] at hav3 hcap3 hlen3 hX3
            obtain ⟨M3, hM3⟩ : ∃ N, e.arms.length = N := ⟨_, rfl⟩
            have hMh3 := Lib.hid hM3
            rw [hM3] at hav3 hcap3 hlen3 hX3
            have hav3 := Lib.hid hav3
            have a5 := b3
            have b5' := b5
            obtain ⟨Wb, rfl⟩ : ∃ Wb : World, Wb = wr := ⟨_, rfl⟩
            clear hM3 hR2 hX2 hK2 hz3 hcap2 hlen2 n4
            go_wp2_with fail
            go_loopw [7, 10] (fun sd si wr => ∃ i d : Nat, i ≤ M3 ∧ d ≤ k ∧ sd = .int .i64 d ∧ si = .int .i64 i ∧ Hid (max d (maxL (L3.drop i)) = T) ∧ Nb Wb wr) (fun _ si _ => M3 - (intOf si).toNat)
            case atStart => exact ⟨0, d2, Nat.zero_le _, hd2, rfl, rfl, hT3, Nb.refl _⟩
            case round =>
              clear b3 b5 q5 b4' a4 hg5 hg3
              obtain ⟨i3, d3, hi3, hd3, rfl, rfl, hR3, hg6⟩ := hrel
              have b3 := hg6.block a5
              have b6 := hg6.block b5'
              have q6 : wr.cell? ⟨w.heap.size + 1, 6, none⟩ = some (.slice A3 M3 cap3) := (cell_of_row _ _ 6 _ _ _ b6).trans (congrArg some hav3.out)
              by_cases hlt6 : i3 < M3
              · have hlt7 : (i3 : Int) < (M3 : Int) := by omega
                obtain ⟨x, hx⟩ : ∃ x, e.arms[i3]? = some x := ⟨_, List.getElem?_eq_getElem (by rw [hMh3.out]; exact hlt6)⟩
                obtain ⟨b, o, rfl, hxc⟩ := hX3.out.at_ (i := i3) (r := x.cells) (by rw [List.getElem?_map, hx]; rfl)
                have hnb : Nb W0 wr := hw.trans (n5.trans hg6)
                have hxs : maxL (L3.drop i3) = max (max (dpE k x.pat) (max (dpEs k x.guard) (dpB k x.body))) (maxL (L3.drop (i3 + 1))) := max_drop (by rw [← hL3.out, List.getElem?_map, hx]; rfl)
                obtain ⟨hp, hg, hb⟩ := hK3.out x (List.mem_of_getElem? hx)
                have hpH := Lib.hid hp
                have hih2 := Lib.hid (fun w5 (h5 : Nb W0 w5) => dexprs_any W0 k (by omega) x.gv x.guard hg w5 h5)
                have hih3 := Lib.hid (fun w5 (h5 : Nb W0 w5) => ih (by omega) x.body hb w5 h5)
                have le1 := dpE_le k x.pat
                have le2 := dpEs_le k x.guard
                have le3 := dpB_le k x.body
                have hR4 := Lib.hid (show max (max (max (max d3 (dpE k x.pat)) (dpEs k x.guard)) (dpB k x.body)) (maxL (L3.drop (i3 + 1))) = T by rw [← hR3.out, hxs]; omega)
                have hxc := Lib.hid hxc
                have hih1 := Lib.hid (fun (We : World) (v : Value) (h : ExsHas We v [x.pat]) => (dp_one k x.pat) ▸ dpatterns_any We k (by omega) v [x.pat] h We (Nb.refl _))
                generalize dpE k x.pat = D1 at hih1 le1 hR4
                generalize dpEs k x.guard = D2 at hih2 le2 hR4
                generalize dpB k x.body = D3 at hih3 le3 hR4
                have y0 := hnb.cell (hxc.out 0 _ rfl)
                have y1 := hnb.cell (hxc.out 1 _ rfl)
                have y2 := hnb.cell (hxc.out 2 _ rfl)
                have y3 := hnb.cell (hxc.out 3 _ rfl)
                have y4 := hnb.cell (hxc.out 4 _ rfl)
                simp only [Nat.add_zero] at y0
                clear hx hp hg hb hR3 hxs
                go_upto_region 15 with (fail)
                refine wp_region_late [] (fun _ => True) (fun w' => Nb wr w') (by kernel_rfl) ⟨fun _ => trivial, (Nb.refl wr).drew1'⟩ (fun _ => ?_)
                change wpAnyL _ _ _ _ _ _ _ 14 (List.toArray [false, false, false, false, false, false, false, false, false, false, false, false, false, false]) _ _
                have hG : Nb wr wr.drew := (Nb.refl wr).drew1'
                refine takeG_l (i := 0) (v := .int .i64 (d3 : Int)) rfl (by kernel_rfl) (by kernel_rfl) (by kernel_rfl) (by rfl) (fun _ _ _ h => h) (.inl ⟨by rfl, by intro w' hw; go_simp⟩) ⟨fun _ => trivial, hG⟩ ?_
                simp only [Act.put, List.setIfInBounds_toArray, List.set_cons_zero, List.set_cons_succ]
                refine takeG_l (i := 1) (v := .agg #[]) rfl (by kernel_rfl) (by kernel_rfl) (by kernel_rfl) (by rfl) (fun _ _ _ h => h) (yields_load (by rfl) 61 (.tmp 3) rfl _ rfl _ (fun w' hw => run_loadVar_row _ _ _ _ _ _ _ (hw.block b3) Tryd.underlying61 rfl (by kernel_rfl))) ⟨fun _ => trivial, hG⟩ ?_
                simp only [Act.put, List.setIfInBounds_toArray, List.set_cons_zero, List.set_cons_succ]
                refine takeG_l (i := 2) (v := .pointer (some ⟨w.heap.size + 1, 6, none⟩)) rfl (by kernel_rfl) (by kernel_rfl) (by kernel_rfl) (by rfl) (fun _ _ _ h => h) (.inl ⟨by rfl, by intro w' hw; go_simp⟩) ⟨fun _ => trivial, hG⟩ ?_
                simp only [Act.put, List.setIfInBounds_toArray, List.set_cons_zero, List.set_cons_succ]
                refine takeG_l (i := 3) (v := .slice (some ⟨b, o, none⟩) M3 cap3) rfl (by kernel_rfl) (by kernel_rfl) (by kernel_rfl) (by rfl) (fun _ _ _ h => h) (.inl ⟨by rfl, by intro w' hw; have hc := Nb.cell hw q6; go_simp⟩) ⟨fun _ => trivial, hG⟩ ?_
                simp only [Act.put, List.setIfInBounds_toArray, List.set_cons_zero, List.set_cons_succ]
                refine takeG_l (i := 4) (v := .int .i64 (i3 : Int)) rfl (by kernel_rfl) (by kernel_rfl) (by kernel_rfl) (by rfl) (fun _ _ _ h => h) (.inl ⟨by rfl, by intro w' hw; go_simp⟩) ⟨fun _ => trivial, hG⟩ ?_
                simp only [Act.put, List.setIfInBounds_toArray, List.set_cons_zero, List.set_cons_succ]
                refine takeG_l (i := 5) (v := .pointer (some ⟨b, o + i3 * 15, none⟩)) rfl (by kernel_rfl) (by kernel_rfl) (by kernel_rfl) (by rfl) (fun _ _ _ h => h) (.inl ⟨by rfl, by intro w' hw; go_simp⟩) ⟨fun _ => trivial, hG⟩ ?_
                simp only [Act.put, List.setIfInBounds_toArray, List.set_cons_zero, List.set_cons_succ]
                refine takeG_l (i := 6) (v := .pointer (some ⟨b, o + i3 * 15, none⟩)) rfl (by kernel_rfl) (by kernel_rfl) (by kernel_rfl) (by rfl) (fun _ _ _ h => h) (.inl ⟨by rfl, by intro w' hw; go_simp⟩) ⟨fun _ => trivial, hG⟩ ?_
                simp only [Act.put, List.setIfInBounds_toArray, List.set_cons_zero, List.set_cons_succ]
                refine takeG_l (i := 7) (v := .agg #[.int .i64 x.pat.kind, .int .i64 x.pat.at_, .int .i64 x.pat.n, sV x.pat.name, x.pat.av]) rfl (by kernel_rfl) (by kernel_rfl) (by kernel_rfl) (by rfl) (fun _ _ _ h => h) (.inl ⟨by rfl, by intro w' hw; have h0 := Nb.cell hw y0; have h1 := Nb.cell hw y1; have h2 := Nb.cell hw y2; have h3 := Nb.cell hw y3; have h4 := Nb.cell hw y4; go_simp⟩) ⟨fun _ => trivial, hG⟩ ?_
                simp only [Act.put, List.setIfInBounds_toArray, List.set_cons_zero, List.set_cons_succ]
                refine takeG_l (i := 9) (v := .int .i64 ((k : Int) + 1)) rfl (by kernel_rfl) (by kernel_rfl) (by kernel_rfl) (by rfl) (fun _ _ _ h => h) (.inl ⟨by rfl, by intro w' hw; go_simp⟩) ⟨fun _ => trivial, hG⟩ ?_
                simp only [Act.put, List.setIfInBounds_toArray, List.set_cons_zero, List.set_cons_succ]
                refine takeG_l (i := 10) (v := .int .i64 (k : Int)) rfl (by kernel_rfl) (by kernel_rfl) (by kernel_rfl) (by rfl) (fun _ _ _ h => h) (.inl ⟨by rfl, by intro w' hw; go_simp⟩) ⟨fun _ => trivial, hG⟩ ?_
                simp only [Act.put, List.setIfInBounds_toArray, List.set_cons_zero, List.set_cons_succ]
                generalize wr.drew = Wd at hG ⊢
                refine onlyL_l (i := 8) (by kernel_rfl) rfl (by rfl) (fun K hK => ?_)
                go_simp
                refine hK.out _ _ ⟨fun _ => trivial, hG.alloc _⟩ (fun _ => ?_)
                clear hK K
                simp only [Act.put, List.setIfInBounds_toArray, List.set_cons_zero, List.set_cons_succ]
                have q0 : (Wd.alloc (.cells x.pat.cells.toArray 71)).heap[Wd.heap.size]? = some (.cells x.pat.cells.toArray 71 (0, 0)) := new_blk _ _ rfl
                have hG2 : Nb wr (Wd.alloc (.cells x.pat.cells.toArray 71)) := hG.alloc _
                have hpx := one_exs (Ex.Has.nb (hnb.trans hG2) hpH.out) q0
                change wpAnyL _ _ _ _ _ _ _ _ _ _ (Wd.alloc (.cells x.pat.cells.toArray 71))
                generalize Wd.alloc (.cells x.pat.cells.toArray 71) = We at q0 hG2 hpx ⊢
                refine onlyL_l (i := 11) (by kernel_rfl) rfl (by rfl) (fun K hK => ?_)
                go_simp
                refine (hih1.out We _ hpx).mono ?_
                rintro r w5 ⟨rfl, hn1⟩
                have hG := hG2.trans hn1
                refine hK.out _ _ ⟨fun _ => trivial, hG⟩ (fun _ => ?_)
                clear hK K
                simp only [Act.put, List.setIfInBounds_toArray, List.set_cons_zero, List.set_cons_succ]
                refine takeG_l (i := 12) (v := .int .i64 ((max d3 D1 : Nat) : Int)) rfl (by kernel_rfl) (by kernel_rfl) (by kernel_rfl) (by rfl) (fun _ _ _ h => h) (.inl ⟨by rfl, by intro w' hw; go_simp; (first | done | (split <;> omega))⟩) ⟨fun _ => trivial, hG⟩ ?_
                simp only [Act.put, List.setIfInBounds_toArray, List.set_cons_zero, List.set_cons_succ]
                refine takeG_l (i := 13) (v := .int .i64 ((max d3 D1 : Nat) : Int)) rfl (by kernel_rfl) (by kernel_rfl) (by kernel_rfl) (by rfl) (fun _ _ _ h => h) (.inl ⟨by rfl, by intro w' hw; go_simp⟩) ⟨fun _ => trivial, hG⟩ ?_
                simp only [Act.put, List.setIfInBounds_toArray, List.set_cons_zero, List.set_cons_succ]
                refine doneL (by kernel_rfl) ?_ _
                have b7 := hG.block b6
                have b3 := hG.block b3
                have q7 : w5.cell? ⟨w.heap.size + 1, 6, none⟩ = some (.slice (some ⟨b, o, none⟩) M3 cap3) := (cell_of_row _ _ 6 _ _ _ b7).trans (congrArg some hav3.out)
                have hnb5 := hnb.trans hG
                have y5 := hnb5.cell (hxc.out 5 _ rfl)
                have hg7 := hg6.trans hG
                obtain ⟨E1, hE1⟩ : ∃ E, max d3 D1 = E := ⟨_, rfl⟩
                rw [hE1] at hR4 ⊢
                have hE1k : E1 ≤ k := by omega
                clear y0 y1 y2 y3 y4 q6 hih1 q0 hG2 hpx hn1 hG hE1 le1 b6 hg6
                go_upto_region 16 with (fail)
                refine wp_region_late [] (fun _ => True) (fun w' => Nb w5 w') (by kernel_rfl) ⟨fun _ => trivial, (Nb.refl w5).drew1'⟩ (fun _ => ?_)
                change wpAnyL _ _ _ _ _ _ _ 13 (List.toArray [false, false, false, false, false, false, false, false, false, false, false, false, false]) _ _
                have hG : Nb w5 w5.drew := (Nb.refl w5).drew1'
                refine takeG_l (i := 0) (v := .int .i64 (E1 : Int)) rfl (by kernel_rfl) (by kernel_rfl) (by kernel_rfl) (by rfl) (fun _ _ _ h => h) (.inl ⟨by rfl, by intro w' hw; go_simp⟩) ⟨fun _ => trivial, hG⟩ ?_
                simp only [Act.put, List.setIfInBounds_toArray, List.set_cons_zero, List.set_cons_succ]
                refine takeG_l (i := 1) (v := .agg #[]) rfl (by kernel_rfl) (by kernel_rfl) (by kernel_rfl) (by rfl) (fun _ _ _ h => h) (yields_load (by rfl) 61 (.tmp 3) rfl _ rfl _ (fun w' hw => run_loadVar_row _ _ _ _ _ _ _ (hw.block b3) Tryd.underlying61 rfl (by kernel_rfl))) ⟨fun _ => trivial, hG⟩ ?_
                simp only [Act.put, List.setIfInBounds_toArray, List.set_cons_zero, List.set_cons_succ]
                refine takeG_l (i := 2) (v := .pointer (some ⟨w.heap.size + 1, 6, none⟩)) rfl (by kernel_rfl) (by kernel_rfl) (by kernel_rfl) (by rfl) (fun _ _ _ h => h) (.inl ⟨by rfl, by intro w' hw; go_simp⟩) ⟨fun _ => trivial, hG⟩ ?_
                simp only [Act.put, List.setIfInBounds_toArray, List.set_cons_zero, List.set_cons_succ]
                refine takeG_l (i := 3) (v := .slice (some ⟨b, o, none⟩) M3 cap3) rfl (by kernel_rfl) (by kernel_rfl) (by kernel_rfl) (by rfl) (fun _ _ _ h => h) (.inl ⟨by rfl, by intro w' hw; have hc := Nb.cell hw q7; go_simp⟩) ⟨fun _ => trivial, hG⟩ ?_
                simp only [Act.put, List.setIfInBounds_toArray, List.set_cons_zero, List.set_cons_succ]
                refine takeG_l (i := 4) (v := .int .i64 (i3 : Int)) rfl (by kernel_rfl) (by kernel_rfl) (by kernel_rfl) (by rfl) (fun _ _ _ h => h) (.inl ⟨by rfl, by intro w' hw; go_simp⟩) ⟨fun _ => trivial, hG⟩ ?_
                simp only [Act.put, List.setIfInBounds_toArray, List.set_cons_zero, List.set_cons_succ]
                refine takeG_l (i := 5) (v := .pointer (some ⟨b, o + i3 * 15, none⟩)) rfl (by kernel_rfl) (by kernel_rfl) (by kernel_rfl) (by rfl) (fun _ _ _ h => h) (.inl ⟨by rfl, by intro w' hw; go_simp⟩) ⟨fun _ => trivial, hG⟩ ?_
                simp only [Act.put, List.setIfInBounds_toArray, List.set_cons_zero, List.set_cons_succ]
                refine takeG_l (i := 6) (v := .pointer (some ⟨b, o + i3 * 15 + 5, none⟩)) rfl (by kernel_rfl) (by kernel_rfl) (by kernel_rfl) (by rfl) (fun _ _ _ h => h) (.inl ⟨by rfl, by intro w' hw; go_simp⟩) ⟨fun _ => trivial, hG⟩ ?_
                simp only [Act.put, List.setIfInBounds_toArray, List.set_cons_zero, List.set_cons_succ]
                refine takeG_l (i := 7) (v := x.gv) rfl (by kernel_rfl) (by kernel_rfl) (by kernel_rfl) (by rfl) (fun _ _ _ h => h) (.inl ⟨by rfl, by intro w' hw; have hc := Nb.cell hw y5; go_simp⟩) ⟨fun _ => trivial, hG⟩ ?_
                simp only [Act.put, List.setIfInBounds_toArray, List.set_cons_zero, List.set_cons_succ]
                refine takeG_l (i := 8) (v := .int .i64 ((k : Int) + 1)) rfl (by kernel_rfl) (by kernel_rfl) (by kernel_rfl) (by rfl) (fun _ _ _ h => h) (.inl ⟨by rfl, by intro w' hw; go_simp⟩) ⟨fun _ => trivial, hG⟩ ?_
                simp only [Act.put, List.setIfInBounds_toArray, List.set_cons_zero, List.set_cons_succ]
                refine takeG_l (i := 9) (v := .int .i64 (k : Int)) rfl (by kernel_rfl) (by kernel_rfl) (by kernel_rfl) (by rfl) (fun _ _ _ h => h) (.inl ⟨by rfl, by intro w' hw; go_simp⟩) ⟨fun _ => trivial, hG⟩ ?_
                simp only [Act.put, List.setIfInBounds_toArray, List.set_cons_zero, List.set_cons_succ]
                generalize w5.drew = Wd at hG ⊢
                refine onlyL_l (i := 10) (by kernel_rfl) rfl (by rfl) (fun K hK => ?_)
                go_simp
                refine (hih2.out _ (hnb5.trans hG)).mono ?_
                rintro r w6 ⟨rfl, hn1⟩
                replace hG := hG.trans hn1
                refine hK.out _ _ ⟨fun _ => trivial, hG⟩ (fun _ => ?_)
                clear hK K
                simp only [Act.put, List.setIfInBounds_toArray, List.set_cons_zero, List.set_cons_succ]
                refine takeG_l (i := 11) (v := .int .i64 ((max E1 D2 : Nat) : Int)) rfl (by kernel_rfl) (by kernel_rfl) (by kernel_rfl) (by rfl) (fun _ _ _ h => h) (.inl ⟨by rfl, by intro w' hw; go_simp; (first | done | (split <;> omega))⟩) ⟨fun _ => trivial, hG⟩ ?_
                simp only [Act.put, List.setIfInBounds_toArray, List.set_cons_zero, List.set_cons_succ]
                refine takeG_l (i := 12) (v := .int .i64 ((max E1 D2 : Nat) : Int)) rfl (by kernel_rfl) (by kernel_rfl) (by kernel_rfl) (by rfl) (fun _ _ _ h => h) (.inl ⟨by rfl, by intro w' hw; go_simp⟩) ⟨fun _ => trivial, hG⟩ ?_
                simp only [Act.put, List.setIfInBounds_toArray, List.set_cons_zero, List.set_cons_succ]
                refine doneL (by kernel_rfl) ?_ _
                have b8 := hG.block b7
                have b3 := hG.block b3
                have q8 : w6.cell? ⟨w.heap.size + 1, 6, none⟩ = some (.slice (some ⟨b, o, none⟩) M3 cap3) := (cell_of_row _ _ 6 _ _ _ b8).trans (congrArg some hav3.out)
                have hnb6 := hnb5.trans hG
                have y6 := hnb6.cell (hxc.out 6 _ rfl)
                have y7 := hnb6.cell (hxc.out 7 _ rfl)
                have y8 := hnb6.cell (hxc.out 8 _ rfl)
                have y9 := hnb6.cell (hxc.out 9 _ rfl)
                have y10 := hnb6.cell (hxc.out 10 _ rfl)
                have y11 := hnb6.cell (hxc.out 11 _ rfl)
                have y12 := hnb6.cell (hxc.out 12 _ rfl)
                have y13 := hnb6.cell (hxc.out 13 _ rfl)
                have y14 := hnb6.cell (hxc.out 14 _ rfl)
                have hg8 := hg7.trans hG
                obtain ⟨E2, hE2⟩ : ∃ E, max E1 D2 = E := ⟨_, rfl⟩
                rw [hE2] at hR4 ⊢
                have hE2k : E2 ≤ k := by omega
                clear y5 q7 hih2 hn1 hG hE2 le2 b7 hg7
                go_upto_region 17 with (fail)
                refine wp_region_late [] (fun _ => True) (fun w' => Nb w6 w') (by kernel_rfl) ⟨fun _ => trivial, (Nb.refl w6).drew1'⟩ (fun _ => ?_)
                change wpAnyL _ _ _ _ _ _ _ 13 (List.toArray [false, false, false, false, false, false, false, false, false, false, false, false, false]) _ _
                have hG : Nb w6 w6.drew := (Nb.refl w6).drew1'
                refine takeG_l (i := 0) (v := .int .i64 (E2 : Int)) rfl (by kernel_rfl) (by kernel_rfl) (by kernel_rfl) (by rfl) (fun _ _ _ h => h) (.inl ⟨by rfl, by intro w' hw; go_simp⟩) ⟨fun _ => trivial, hG⟩ ?_
                simp only [Act.put, List.setIfInBounds_toArray, List.set_cons_zero, List.set_cons_succ]
                refine takeG_l (i := 1) (v := .agg #[]) rfl (by kernel_rfl) (by kernel_rfl) (by kernel_rfl) (by rfl) (fun _ _ _ h => h) (yields_load (by rfl) 61 (.tmp 3) rfl _ rfl _ (fun w' hw => run_loadVar_row _ _ _ _ _ _ _ (hw.block b3) Tryd.underlying61 rfl (by kernel_rfl))) ⟨fun _ => trivial, hG⟩ ?_
                simp only [Act.put, List.setIfInBounds_toArray, List.set_cons_zero, List.set_cons_succ]
                refine takeG_l (i := 2) (v := .pointer (some ⟨w.heap.size + 1, 6, none⟩)) rfl (by kernel_rfl) (by kernel_rfl) (by kernel_rfl) (by rfl) (fun _ _ _ h => h) (.inl ⟨by rfl, by intro w' hw; go_simp⟩) ⟨fun _ => trivial, hG⟩ ?_
                simp only [Act.put, List.setIfInBounds_toArray, List.set_cons_zero, List.set_cons_succ]
                refine takeG_l (i := 3) (v := .slice (some ⟨b, o, none⟩) M3 cap3) rfl (by kernel_rfl) (by kernel_rfl) (by kernel_rfl) (by rfl) (fun _ _ _ h => h) (.inl ⟨by rfl, by intro w' hw; have hc := Nb.cell hw q8; go_simp⟩) ⟨fun _ => trivial, hG⟩ ?_
                simp only [Act.put, List.setIfInBounds_toArray, List.set_cons_zero, List.set_cons_succ]
                refine takeG_l (i := 4) (v := .int .i64 (i3 : Int)) rfl (by kernel_rfl) (by kernel_rfl) (by kernel_rfl) (by rfl) (fun _ _ _ h => h) (.inl ⟨by rfl, by intro w' hw; go_simp⟩) ⟨fun _ => trivial, hG⟩ ?_
                simp only [Act.put, List.setIfInBounds_toArray, List.set_cons_zero, List.set_cons_succ]
                refine takeG_l (i := 5) (v := .pointer (some ⟨b, o + i3 * 15, none⟩)) rfl (by kernel_rfl) (by kernel_rfl) (by kernel_rfl) (by rfl) (fun _ _ _ h => h) (.inl ⟨by rfl, by intro w' hw; go_simp⟩) ⟨fun _ => trivial, hG⟩ ?_
                simp only [Act.put, List.setIfInBounds_toArray, List.set_cons_zero, List.set_cons_succ]
                refine takeG_l (i := 6) (v := .pointer (some ⟨b, o + i3 * 15 + 6, none⟩)) rfl (by kernel_rfl) (by kernel_rfl) (by kernel_rfl) (by rfl) (fun _ _ _ h => h) (.inl ⟨by rfl, by intro w' hw; go_simp⟩) ⟨fun _ => trivial, hG⟩ ?_
                simp only [Act.put, List.setIfInBounds_toArray, List.set_cons_zero, List.set_cons_succ]
                refine takeG_l (i := 7) (v := .agg #[x.body.sv, .int .i64 x.body.kind, .int .i64 x.body.at_, sV x.body.actor, x.body.av, x.body.pv, x.body.mv, .bool x.body.late, .int .i64 x.body.after]) rfl (by kernel_rfl) (by kernel_rfl) (by kernel_rfl) (by rfl) (fun _ _ _ h => h) (.inl ⟨by rfl, by intro w' hw; have h0 := Nb.cell hw y6; have h1 := Nb.cell hw y7; have h2 := Nb.cell hw y8; have h3 := Nb.cell hw y9; have h4 := Nb.cell hw y10; have h5 := Nb.cell hw y11; have h6 := Nb.cell hw y12; have h7 := Nb.cell hw y13; have h8 := Nb.cell hw y14; go_simp⟩) ⟨fun _ => trivial, hG⟩ ?_
                simp only [Act.put, List.setIfInBounds_toArray, List.set_cons_zero, List.set_cons_succ]
                refine takeG_l (i := 8) (v := .int .i64 ((k : Int) + 1)) rfl (by kernel_rfl) (by kernel_rfl) (by kernel_rfl) (by rfl) (fun _ _ _ h => h) (.inl ⟨by rfl, by intro w' hw; go_simp⟩) ⟨fun _ => trivial, hG⟩ ?_
                simp only [Act.put, List.setIfInBounds_toArray, List.set_cons_zero, List.set_cons_succ]
                refine takeG_l (i := 9) (v := .int .i64 (k : Int)) rfl (by kernel_rfl) (by kernel_rfl) (by kernel_rfl) (by rfl) (fun _ _ _ h => h) (.inl ⟨by rfl, by intro w' hw; go_simp⟩) ⟨fun _ => trivial, hG⟩ ?_
                simp only [Act.put, List.setIfInBounds_toArray, List.set_cons_zero, List.set_cons_succ]
                generalize w6.drew = Wd at hG ⊢
                refine onlyL_l (i := 10) (by kernel_rfl) rfl (by rfl) (fun K hK => ?_)
                go_simp
                refine (hih3.out _ (hnb6.trans hG)).mono ?_
                rintro r w7 ⟨rfl, hn1⟩
                replace hG := hG.trans hn1
                refine hK.out _ _ ⟨fun _ => trivial, hG⟩ (fun _ => ?_)
                clear hK K
                simp only [Act.put, List.setIfInBounds_toArray, List.set_cons_zero, List.set_cons_succ]
                refine takeG_l (i := 11) (v := .int .i64 ((max E2 D3 : Nat) : Int)) rfl (by kernel_rfl) (by kernel_rfl) (by kernel_rfl) (by rfl) (fun _ _ _ h => h) (.inl ⟨by rfl, by intro w' hw; go_simp; (first | done | (split <;> omega))⟩) ⟨fun _ => trivial, hG⟩ ?_
                simp only [Act.put, List.setIfInBounds_toArray, List.set_cons_zero, List.set_cons_succ]
                refine takeG_l (i := 12) (v := .int .i64 ((max E2 D3 : Nat) : Int)) rfl (by kernel_rfl) (by kernel_rfl) (by kernel_rfl) (by rfl) (fun _ _ _ h => h) (.inl ⟨by rfl, by intro w' hw; go_simp⟩) ⟨fun _ => trivial, hG⟩ ?_
                simp only [Act.put, List.setIfInBounds_toArray, List.set_cons_zero, List.set_cons_succ]
                refine doneL (by kernel_rfl) ?_ _
                go_wp2_with fail
                exact ⟨⟨i3 + 1, max E2 D3, by omega, by omega, rfl, by simp, hR4, hg8.trans hG⟩, by simp [intOf] <;> omega⟩
              · obtain rfl : i3 = M3 := by omega
                have hm4 : d3 = T := by
                  have := hR3.out
                  rw [List.drop_eq_nil_of_le (by rw [← hL3.out, List.length_map, hMh3.out]; exact Nat.le_refl _)] at this
                  rw [← this]
                  show d3 = max d3 0
                  omega
                have hfin : ((1 + T : Nat) : Int) = (T : Int) + 1 := by omega
                subst hm4
                clear hR3
                go_wp2_with fail
                go_ret
                exact ⟨by rw [hfin]; rfl, n5.trans hg6⟩
end Go.Proofs.YtojogolmcclpoaaDoor
