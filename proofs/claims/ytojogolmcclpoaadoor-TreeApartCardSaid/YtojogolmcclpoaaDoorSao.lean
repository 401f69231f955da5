/-
  Proved here: of the reference: how deep a tree is. Conditions: the memory holds it.
-/
import Derived.Test.YtojogolmcclpoaaDoorSaj
import Derived.Test.YtojogolmcclpoaaDoorSan
namespace Go.Proofs.YtojogolmcclpoaaDoor
open Go.RowKit
set_option linter.unusedVariables false
set_option linter.unusedSimpArgs false
set_option maxRecDepth 100000
set_option maxHeartbeats 4000000
theorem maxL_le {l : List Nat} {k : Nat} (h : ∀ x ∈ l, x ≤ k) : maxL l ≤ k := by
  induction l with
  | nil => exact Nat.zero_le _
  | cons x r ih =>
    have h1 := h x (List.mem_cons_self ..)
    have h2 := ih fun y hy => h y (List.mem_cons_of_mem _ hy)
    show max x (maxL r) ≤ k
    omega
theorem dpE_le : ∀ (k : Nat) (e : Ex), dpE k e ≤ k
  | 0, _ => Nat.le_refl _
  | k + 1, e => by
    show 1 + maxL (e.args.map (dpE k)) ≤ k + 1
    have := maxL_le (l := e.args.map (dpE k)) (k := k) (fun x hx => by
      obtain ⟨y, _, rfl⟩ := List.mem_map.1 hx
      exact dpE_le k y)
    omega
theorem dpEs_le (k : Nat) (l : List Ex) : dpEs k l ≤ k := maxL_le fun x hx => by
  obtain ⟨y, _, rfl⟩ := List.mem_map.1 hx
  exact dpE_le k y
theorem dpEs_zero (l : List Ex) : dpEs 0 l = 0 := Nat.le_zero.1 (dpEs_le 0 l)
theorem max_drop {l : List Nat} {i x : Nat} (h : l[i]? = some x) : maxL (l.drop i) = max x (maxL (l.drop (i + 1))) := by rw [drop_some h]; rfl
theorem yields_load {P : Program} {ops : Array Oper} {S : World → Prop} {op : Oper} {a : Act} (hw : Region.wanted op (yielded ops a.tmps) = true) (ty : TypeId) (x : Operand) (ho : op.op = .load ty x)
    (p : Addr) (hx : a.eval x = .pointer (some p)) (v : Value) (hS : ∀ w, S w → (loadVar ty p).run P w = .ok v w) : YieldsIf P ops S op v a :=
  .inl ⟨hw, fun w hw' => by
    unfold execOp
    simp only [ho, hx, Instr.loadAt, Instr.sureAddr, Sem.run_bind, Sem.run_pure, Result.andThen_ok, hS w hw']⟩
theorem Nb.drew1' {a b : World} (h : Nb a b) : Nb a b.drew := h.drewN 1
theorem dexprs_any (W0 : World) : ∀ k : Nat, k ≤ 65 → ∀ (v : Value) (l : List Ex), ExsHas W0 v l → ∀ (w : World), Nb W0 w →
    Calls Tryd.prog 20 #[.agg #[], v, .int .i64 (k : Int)] w fun r w' => r = .returned (.int .i64 (dpEs k l : Nat)) ∧ Nb w w' := by
  intro k
  induction k with
  | zero =>
    intro _ v l hl w hw
    rw [dpEs_zero]
    obtain ⟨A, cap, rfl, hcap, hlen, hz⟩ := hl.head
    obtain ⟨N, hN⟩ : ∃ N, l.length = N := ⟨_, rfl⟩
    rw [hN]
    clear hl hN hcap hlen hz
    go_enter Tryd.func20, Tryd.ntmps20
    go_upto_region 1 with (fail)
    obtain ⟨W1, hW⟩ : ∃ W1, w.alloc (Obj.cells #[] 61) = W1 := ⟨_, rfl⟩
    have n1 : Nb w W1 := by rw [← hW]; exact (Nb.refl w).alloc _
    rw [hW]
    clear hW
    go_wp2_with fail
    go_loopw [7, 8] (fun sd si wr => sd = .int .i64 0 ∧ si = .int .i64 0 ∧ wr = W1) (fun _ si _ => 0)
    case atStart => exact ⟨rfl, rfl, rfl⟩
    case round =>
      obtain ⟨rfl, rfl, rfl⟩ := hrel
      go_wp2_with fail
      all_goals
        go_ret
        exact ⟨rfl, n1⟩
  | succ k ih =>
    intro hk v l hl w hw
    rw [show ((k + 1 : Nat) : Int) = (k : Int) + 1 by omega]
    obtain ⟨T, hT⟩ : ∃ T, dpEs (k + 1) l = T := ⟨_, rfl⟩
    rw [hT]
    have hT0 := Lib.hid (show max 0 (maxL ((l.map (dpE (k + 1))).drop 0)) = T by rw [List.drop_zero, Nat.zero_max]; exact hT)
    clear hT
    obtain ⟨A, cap, rfl, hcap, hlen, hz⟩ := hl.head
    have hX := Lib.hid hl
    obtain ⟨N, hN⟩ : ∃ N, l.length = N := ⟨_, rfl⟩
    have hNh := Lib.hid hN
    rw [hN] at hcap hlen hX ⊢
    have hk0 : (0 : Int) < (k : Int) + 1 := by omega
    have ifm := if_max
    clear hN hl
    go_enter Tryd.func20, Tryd.ntmps20
    go_upto_region 1 with (fail)
    obtain ⟨W1, hW⟩ : ∃ W1, w.alloc (Obj.cells #[] 61) = W1 := ⟨_, rfl⟩
    have n1 : Nb w W1 := by rw [← hW]; exact (Nb.refl w).alloc _
    have b1 : W1.heap[w.heap.size]? = some (.cells #[] 61 (0, 0)) := by rw [← hW]; exact new_blk w _ rfl
    rw [hW]
    clear hW
    go_wp2_with fail
    go_loopw [7, 8] (fun sd si wr => ∃ i d : Nat, i ≤ N ∧ d ≤ k + 1 ∧ sd = .int .i64 d ∧ si = .int .i64 i ∧ Hid (max d (maxL ((l.map (dpE (k + 1))).drop i)) = T) ∧ Nb W1 wr) (fun _ si _ => N - (intOf si).toNat)
    case atStart => exact ⟨0, 0, Nat.zero_le _, Nat.zero_le _, rfl, rfl, hT0, Nb.refl _⟩
    case round =>
      obtain ⟨i, d, hi, hd, rfl, rfl, hR, hg3⟩ := hrel
      by_cases hlt2 : i < N
      · have hlt3 : (i : Int) < (N : Int) := by omega
        obtain ⟨x, hx⟩ : ∃ x, l[i]? = some x := ⟨_, List.getElem?_eq_getElem (by rw [hNh.out]; exact hlt2)⟩
        obtain ⟨b, o, rfl, ⟨x0, x1, x2, x3, x4⟩, hxh⟩ := hX.out.at_ hx
        have hnb : Nb W0 wr := hw.trans (n1.trans hg3)
        replace x4 := hnb.cell x4
        have hih := Lib.hid (fun w5 (h5 : Nb W0 w5) => ih (by omega) x.av x.args hxh.exs w5 h5)
        have hle := dpEs_le k x.args
        have hR2 := Lib.hid (show max (max d (1 + dpEs k x.args)) (maxL ((l.map (dpE (k + 1))).drop (i + 1))) = T by
          rw [← hR.out, max_drop (show (l.map (dpE (k + 1)))[i]? = some (dpE (k + 1) x) by rw [List.getElem?_map, hx]; rfl)]
          show _ = max d (max (1 + dpEs k x.args) _)
          omega)
        have b3 := hg3.block b1
        have g0' : Nb wr wr.drew := (Nb.refl wr).drew1'
        generalize dpEs k x.args = D at hih hle hR2
        have w1 : IntKind.i64.wrap (k : Int) = (k : Int) := by rw [IntKind.wrap_i64]; omega
        have w2 : IntKind.i64.wrap (1 + (D : Int)) = 1 + (D : Int) := by rw [IntKind.wrap_i64]; omega
        clear hx hxh hR x0 x1 x2 x3
        go_upto_region 5 with (fail)
        refine wp_region_late [] (fun _ => True) (fun w' => Nb wr w') (by kernel_rfl) ⟨fun _ => trivial, (Nb.refl wr).drew1'⟩ (fun _ => ?_)
        change wpAnyL _ _ _ _ _ _ _ 13 (List.toArray [false, false, false, false, false, false, false, false, false, false, false, false, false]) _ _
        have hG : Nb wr wr.drew := (Nb.refl wr).drew1'
        refine takeG_l (i := 0) (v := .int .i64 (d : Int)) rfl (by kernel_rfl) (by kernel_rfl) (by kernel_rfl) (by rfl) (fun _ _ _ h => h) (.inl ⟨by rfl, by intro w' hw; go_simp⟩) ⟨fun _ => trivial, hG⟩ ?_
        simp only [Act.put, List.setIfInBounds_toArray, List.set_cons_zero, List.set_cons_succ]
        refine takeG_l (i := 1) (v := .agg #[]) rfl (by kernel_rfl) (by kernel_rfl) (by kernel_rfl) (by rfl) (fun _ _ _ h => h) (yields_load (by rfl) 61 (.tmp 3) rfl _ rfl _ (fun w' hw => run_loadVar_row _ _ _ _ _ _ _ (hw.block b3) Tryd.underlying61 rfl (by kernel_rfl))) ⟨fun _ => trivial, hG⟩ ?_
        simp only [Act.put, List.setIfInBounds_toArray, List.set_cons_zero, List.set_cons_succ]
        refine takeG_l (i := 2) (v := .slice (some ⟨b, o, none⟩) N cap) rfl (by kernel_rfl) (by kernel_rfl) (by kernel_rfl) (by rfl) (fun _ _ _ h => h) (.inl ⟨by rfl, by intro w' hw; go_simp⟩) ⟨fun _ => trivial, hG⟩ ?_
        simp only [Act.put, List.setIfInBounds_toArray, List.set_cons_zero, List.set_cons_succ]
        refine takeG_l (i := 3) (v := .int .i64 (i : Int)) rfl (by kernel_rfl) (by kernel_rfl) (by kernel_rfl) (by rfl) (fun _ _ _ h => h) (.inl ⟨by rfl, by intro w' hw; go_simp⟩) ⟨fun _ => trivial, hG⟩ ?_
        simp only [Act.put, List.setIfInBounds_toArray, List.set_cons_zero, List.set_cons_succ]
        refine takeG_l (i := 4) (v := .pointer (some ⟨b, o + i * 5, none⟩)) rfl (by kernel_rfl) (by kernel_rfl) (by kernel_rfl) (by rfl) (fun _ _ _ h => h) (.inl ⟨by rfl, by intro w' hw; go_simp⟩) ⟨fun _ => trivial, hG⟩ ?_
        simp only [Act.put, List.setIfInBounds_toArray, List.set_cons_zero, List.set_cons_succ]
        refine takeG_l (i := 5) (v := .pointer (some ⟨b, o + i * 5 + 4, none⟩)) rfl (by kernel_rfl) (by kernel_rfl) (by kernel_rfl) (by rfl) (fun _ _ _ h => h) (.inl ⟨by rfl, by intro w' hw; go_simp⟩) ⟨fun _ => trivial, hG⟩ ?_
        simp only [Act.put, List.setIfInBounds_toArray, List.set_cons_zero, List.set_cons_succ]
        refine takeG_l (i := 6) (v := x.av) rfl (by kernel_rfl) (by kernel_rfl) (by kernel_rfl) (by rfl) (fun _ _ _ h => h) (.inl ⟨by rfl, by intro w' hw; have hc := Nb.cell hw x4; go_simp⟩) ⟨fun _ => trivial, hG⟩ ?_
        simp only [Act.put, List.setIfInBounds_toArray, List.set_cons_zero, List.set_cons_succ]
        refine takeG_l (i := 7) (v := .int .i64 ((k : Int) + 1)) rfl (by kernel_rfl) (by kernel_rfl) (by kernel_rfl) (by rfl) (fun _ _ _ h => h) (.inl ⟨by rfl, by intro w' hw; go_simp⟩) ⟨fun _ => trivial, hG⟩ ?_
        simp only [Act.put, List.setIfInBounds_toArray, List.set_cons_zero, List.set_cons_succ]
        refine takeG_l (i := 8) (v := .int .i64 (k : Int)) rfl (by kernel_rfl) (by kernel_rfl) (by kernel_rfl) (by rfl) (fun _ _ _ h => h) (.inl ⟨by rfl, by intro w' hw; go_simp⟩) ⟨fun _ => trivial, hG⟩ ?_
        simp only [Act.put, List.setIfInBounds_toArray, List.set_cons_zero, List.set_cons_succ]
        generalize wr.drew = Wd at hG ⊢
        refine onlyL_l (i := 9) (by kernel_rfl) rfl (by rfl) (fun K hK => ?_)
        go_simp
        refine (hih.out _ (hnb.trans hG)).mono ?_
        rintro r w5 ⟨rfl, hn1⟩
        replace hG := hG.trans hn1
        refine hK.out _ _ ⟨fun _ => trivial, hG⟩ (fun _ => ?_)
        clear hK K
        simp only [Act.put, List.setIfInBounds_toArray, List.set_cons_zero, List.set_cons_succ]
        refine takeG_l (i := 10) (v := .int .i64 (1 + (D : Int))) rfl (by kernel_rfl) (by kernel_rfl) (by kernel_rfl) (by rfl) (fun _ _ _ h => h) (.inl ⟨by rfl, by intro w' hw; go_simp⟩) ⟨fun _ => trivial, hG⟩ ?_
        simp only [Act.put, List.setIfInBounds_toArray, List.set_cons_zero, List.set_cons_succ]
        refine takeG_l (i := 11) (v := .int .i64 ((max d (1 + D) : Nat) : Int)) rfl (by kernel_rfl) (by kernel_rfl) (by kernel_rfl) (by rfl) (fun _ _ _ h => h) (.inl ⟨by rfl, by intro w' hw; go_simp; (first | done | (split <;> omega))⟩) ⟨fun _ => trivial, hG⟩ ?_
        simp only [Act.put, List.setIfInBounds_toArray, List.set_cons_zero, List.set_cons_succ]
        refine takeG_l (i := 12) (v := .int .i64 ((max d (1 + D) : Nat) : Int)) rfl (by kernel_rfl) (by kernel_rfl) (by kernel_rfl) (by rfl) (fun _ _ _ h => h) (.inl ⟨by rfl, by intro w' hw; go_simp⟩) ⟨fun _ => trivial, hG⟩ ?_
        simp only [Act.put, List.setIfInBounds_toArray, List.set_cons_zero, List.set_cons_succ]
        refine doneL (by kernel_rfl) ?_ _
        go_wp2_with fail
        exact ⟨⟨i + 1, max d (1 + D), by omega, by omega, rfl, by simp, hR2, hg3.trans hG⟩, by simp [intOf] <;> omega⟩
      · obtain rfl : i = N := by omega
        have hm2 : d = T := by
          have := hR.out
          rw [List.drop_eq_nil_of_le (by rw [List.length_map, hNh.out]; exact Nat.le_refl _)] at this
          rw [← this]
          show d = max d 0
          omega
        subst hm2
        clear hR
        go_wp2_with fail
        go_ret
        exact ⟨rfl, n1.trans hg3⟩
theorem dpatterns_any (W0 : World) : ∀ k : Nat, k ≤ 65 → ∀ (v : Value) (l : List Ex), ExsHas W0 v l → ∀ (w : World), Nb W0 w →
    Calls Tryd.prog 60 #[.agg #[], v, .int .i64 (k : Int)] w fun r w' => r = .returned (.int .i64 (dpEs k l : Nat)) ∧ Nb w w' := by
  intro k
  induction k with
  | zero =>
    intro _ v l hl w hw
    rw [dpEs_zero]
    obtain ⟨A, cap, rfl, hcap, hlen, hz⟩ := hl.head
    obtain ⟨N, hN⟩ : ∃ N, l.length = N := ⟨_, rfl⟩
    rw [hN]
    clear hl hN hcap hlen hz
    go_enter Tryd.func60, Tryd.ntmps60
    go_upto_region 1 with (fail)
    obtain ⟨W1, hW⟩ : ∃ W1, w.alloc (Obj.cells #[] 61) = W1 := ⟨_, rfl⟩
    have n1 : Nb w W1 := by rw [← hW]; exact (Nb.refl w).alloc _
    rw [hW]
    clear hW
    go_wp2_with fail
    go_loopw [7, 8] (fun sd si wr => sd = .int .i64 0 ∧ si = .int .i64 0 ∧ wr = W1) (fun _ si _ => 0)
    case atStart => exact ⟨rfl, rfl, rfl⟩
    case round =>
      obtain ⟨rfl, rfl, rfl⟩ := hrel
      go_wp2_with fail
      all_goals
        go_ret
        exact ⟨rfl, n1⟩
  | succ k ih =>
    intro hk v l hl w hw
    rw [show ((k + 1 : Nat) : Int) = (k : Int) + 1 by omega]
    obtain ⟨T, hT⟩ : ∃ T, dpEs (k + 1) l = T := ⟨_, rfl⟩
    rw [hT]
    have hT0 := Lib.hid (show max 0 (maxL ((l.map (dpE (k + 1))).drop 0)) = T by rw [List.drop_zero, Nat.zero_max]; exact hT)
    clear hT
    obtain ⟨A, cap, rfl, hcap, hlen, hz⟩ := hl.head
    have hX := Lib.hid hl
    obtain ⟨N, hN⟩ : ∃ N, l.length = N := ⟨_, rfl⟩
    have hNh := Lib.hid hN
    rw [hN] at hcap hlen hX ⊢
    have hk0 : (0 : Int) < (k : Int) + 1 := by omega
    have ifm := if_max
    clear hN hl
    go_enter Tryd.func60, Tryd.ntmps60
    go_upto_region 1 with (fail)
    obtain ⟨W1, hW⟩ : ∃ W1, w.alloc (Obj.cells #[] 61) = W1 := ⟨_, rfl⟩
    have n1 : Nb w W1 := by rw [← hW]; exact (Nb.refl w).alloc _
    have b1 : W1.heap[w.heap.size]? = some (.cells #[] 61 (0, 0)) := by rw [← hW]; exact new_blk w _ rfl
    rw [hW]
    clear hW
    go_wp2_with fail
    go_loopw [7, 8] (fun sd si wr => ∃ i d : Nat, i ≤ N ∧ d ≤ k + 1 ∧ sd = .int .i64 d ∧ si = .int .i64 i ∧ Hid (max d (maxL ((l.map (dpE (k + 1))).drop i)) = T) ∧ Nb W1 wr) (fun _ si _ => N - (intOf si).toNat)
    case atStart => exact ⟨0, 0, Nat.zero_le _, Nat.zero_le _, rfl, rfl, hT0, Nb.refl _⟩
    case round =>
      obtain ⟨i, d, hi, hd, rfl, rfl, hR, hg3⟩ := hrel
      by_cases hlt2 : i < N
      · have hlt3 : (i : Int) < (N : Int) := by omega
        obtain ⟨x, hx⟩ : ∃ x, l[i]? = some x := ⟨_, List.getElem?_eq_getElem (by rw [hNh.out]; exact hlt2)⟩
        obtain ⟨b, o, rfl, ⟨x0, x1, x2, x3, x4⟩, hxh⟩ := hX.out.at_ hx
        have hnb : Nb W0 wr := hw.trans (n1.trans hg3)
        replace x4 := hnb.cell x4
        have hih := Lib.hid (fun w5 (h5 : Nb W0 w5) => ih (by omega) x.av x.args hxh.exs w5 h5)
        have hle := dpEs_le k x.args
        have hR2 := Lib.hid (show max (max d (1 + dpEs k x.args)) (maxL ((l.map (dpE (k + 1))).drop (i + 1))) = T by
          rw [← hR.out, max_drop (show (l.map (dpE (k + 1)))[i]? = some (dpE (k + 1) x) by rw [List.getElem?_map, hx]; rfl)]
          show _ = max d (max (1 + dpEs k x.args) _)
          omega)
        have b3 := hg3.block b1
        have g0' : Nb wr wr.drew := (Nb.refl wr).drew1'
        generalize dpEs k x.args = D at hih hle hR2
        have w1 : IntKind.i64.wrap (k : Int) = (k : Int) := by rw [IntKind.wrap_i64]; omega
        have w2 : IntKind.i64.wrap (1 + (D : Int)) = 1 + (D : Int) := by rw [IntKind.wrap_i64]; omega
        clear hx hxh hR x0 x1 x2 x3
        go_upto_region 5 with (fail)
        refine wp_region_late [] (fun _ => True) (fun w' => Nb wr w') (by kernel_rfl) ⟨fun _ => trivial, (Nb.refl wr).drew1'⟩ (fun _ => ?_)
        change wpAnyL _ _ _ _ _ _ _ 13 (List.toArray [false, false, false, false, false, false, false, false, false, false, false, false, false]) _ _
        have hG : Nb wr wr.drew := (Nb.refl wr).drew1'
        refine takeG_l (i := 0) (v := .int .i64 (d : Int)) rfl (by kernel_rfl) (by kernel_rfl) (by kernel_rfl) (by rfl) (fun _ _ _ h => h) (.inl ⟨by rfl, by intro w' hw; go_simp⟩) ⟨fun _ => trivial, hG⟩ ?_
        simp only [Act.put, List.setIfInBounds_toArray, List.set_cons_zero, List.set_cons_succ]
        refine takeG_l (i := 1) (v := .agg #[]) rfl (by kernel_rfl) (by kernel_rfl) (by kernel_rfl) (by rfl) (fun _ _ _ h => h) (yields_load (by rfl) 61 (.tmp 3) rfl _ rfl _ (fun w' hw => run_loadVar_row _ _ _ _ _ _ _ (hw.block b3) Tryd.underlying61 rfl (by kernel_rfl))) ⟨fun _ => trivial, hG⟩ ?_
        simp only [Act.put, List.setIfInBounds_toArray, List.set_cons_zero, List.set_cons_succ]
        refine takeG_l (i := 2) (v := .slice (some ⟨b, o, none⟩) N cap) rfl (by kernel_rfl) (by kernel_rfl) (by kernel_rfl) (by rfl) (fun _ _ _ h => h) (.inl ⟨by rfl, by intro w' hw; go_simp⟩) ⟨fun _ => trivial, hG⟩ ?_
        simp only [Act.put, List.setIfInBounds_toArray, List.set_cons_zero, List.set_cons_succ]
        refine takeG_l (i := 3) (v := .int .i64 (i : Int)) rfl (by kernel_rfl) (by kernel_rfl) (by kernel_rfl) (by rfl) (fun _ _ _ h => h) (.inl ⟨by rfl, by intro w' hw; go_simp⟩) ⟨fun _ => trivial, hG⟩ ?_
        simp only [Act.put, List.setIfInBounds_toArray, List.set_cons_zero, List.set_cons_succ]
        refine takeG_l (i := 4) (v := .pointer (some ⟨b, o + i * 5, none⟩)) rfl (by kernel_rfl) (by kernel_rfl) (by kernel_rfl) (by rfl) (fun _ _ _ h => h) (.inl ⟨by rfl, by intro w' hw; go_simp⟩) ⟨fun _ => trivial, hG⟩ ?_
        simp only [Act.put, List.setIfInBounds_toArray, List.set_cons_zero, List.set_cons_succ]
        refine takeG_l (i := 5) (v := .pointer (some ⟨b, o + i * 5 + 4, none⟩)) rfl (by kernel_rfl) (by kernel_rfl) (by kernel_rfl) (by rfl) (fun _ _ _ h => h) (.inl ⟨by rfl, by intro w' hw; go_simp⟩) ⟨fun _ => trivial, hG⟩ ?_
        simp only [Act.put, List.setIfInBounds_toArray, List.set_cons_zero, List.set_cons_succ]
        refine takeG_l (i := 6) (v := x.av) rfl (by kernel_rfl) (by kernel_rfl) (by kernel_rfl) (by rfl) (fun _ _ _ h => h) (.inl ⟨by rfl, by intro w' hw; have hc := Nb.cell hw x4; go_simp⟩) ⟨fun _ => trivial, hG⟩ ?_
        simp only [Act.put, List.setIfInBounds_toArray, List.set_cons_zero, List.set_cons_succ]
        refine takeG_l (i := 7) (v := .int .i64 ((k : Int) + 1)) rfl (by kernel_rfl) (by kernel_rfl) (by kernel_rfl) (by rfl) (fun _ _ _ h => h) (.inl ⟨by rfl, by intro w' hw; go_simp⟩) ⟨fun _ => trivial, hG⟩ ?_
        simp only [Act.put, List.setIfInBounds_toArray, List.set_cons_zero, List.set_cons_succ]
        refine takeG_l (i := 8) (v := .int .i64 (k : Int)) rfl (by kernel_rfl) (by kernel_rfl) (by kernel_rfl) (by rfl) (fun _ _ _ h => h) (.inl ⟨by rfl, by intro w' hw; go_simp⟩) ⟨fun _ => trivial, hG⟩ ?_
        simp only [Act.put, List.setIfInBounds_toArray, List.set_cons_zero, List.set_cons_succ]
        generalize wr.drew = Wd at hG ⊢
        refine onlyL_l (i := 9) (by kernel_rfl) rfl (by rfl) (fun K hK => ?_)
        go_simp
        refine (hih.out _ (hnb.trans hG)).mono ?_
        rintro r w5 ⟨rfl, hn1⟩
        replace hG := hG.trans hn1
        refine hK.out _ _ ⟨fun _ => trivial, hG⟩ (fun _ => ?_)
        clear hK K
        simp only [Act.put, List.setIfInBounds_toArray, List.set_cons_zero, List.set_cons_succ]
        refine takeG_l (i := 10) (v := .int .i64 (1 + (D : Int))) rfl (by kernel_rfl) (by kernel_rfl) (by kernel_rfl) (by rfl) (fun _ _ _ h => h) (.inl ⟨by rfl, by intro w' hw; go_simp⟩) ⟨fun _ => trivial, hG⟩ ?_
        simp only [Act.put, List.setIfInBounds_toArray, List.set_cons_zero, List.set_cons_succ]
        refine takeG_l (i := 11) (v := .int .i64 ((max d (1 + D) : Nat) : Int)) rfl (by kernel_rfl) (by kernel_rfl) (by kernel_rfl) (by rfl) (fun _ _ _ h => h) (.inl ⟨by rfl, by intro w' hw; go_simp; (first | done | (split <;> omega))⟩) ⟨fun _ => trivial, hG⟩ ?_
        simp only [Act.put, List.setIfInBounds_toArray, List.set_cons_zero, List.set_cons_succ]
        refine takeG_l (i := 12) (v := .int .i64 ((max d (1 + D) : Nat) : Int)) rfl (by kernel_rfl) (by kernel_rfl) (by kernel_rfl) (by rfl) (fun _ _ _ h => h) (.inl ⟨by rfl, by intro w' hw; go_simp⟩) ⟨fun _ => trivial, hG⟩ ?_
        simp only [Act.put, List.setIfInBounds_toArray, List.set_cons_zero, List.set_cons_succ]
        refine doneL (by kernel_rfl) ?_ _
        go_wp2_with fail
        exact ⟨⟨i + 1, max d (1 + D), by omega, by omega, rfl, by simp, hR2, hg3.trans hG⟩, by simp [intOf] <;> omega⟩
      · obtain rfl : i = N := by omega
        have hm2 : d = T := by
          have := hR.out
          rw [List.drop_eq_nil_of_le (by rw [List.length_map, hNh.out]; exact Nat.le_refl _)] at this
          rw [← this]
          show d = max d 0
          omega
        subst hm2
        clear hR
        go_wp2_with fail
        go_ret
        exact ⟨rfl, n1.trans hg3⟩
end Go.Proofs.YtojogolmcclpoaaDoor
