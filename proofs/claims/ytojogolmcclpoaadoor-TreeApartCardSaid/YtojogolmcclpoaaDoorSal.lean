/-
  Proved here: the code's walk over the parts of a definition. Conditions: the memory holds it.
-/
import Derived.Test.YtojogolmcclpoaaDoorSak
namespace Go.Proofs.YtojogolmcclpoaaDoor
open Go.RowKit
set_option linter.unusedVariables false
set_option linter.unusedSimpArgs false
set_option maxRecDepth 100000
set_option maxHeartbeats 4000000
/-- The boxes that the walk over definitions reads. -/
def AtM (l yb : Nat) (W : World) : Prop := W.heap[yb]? = some (.cells #[.func (.yield l) #[] #[]] 64 (0, 0))
theorem param_any (W0 : World) (hi l N : Nat) (J Jx : List Pt → World → Prop) (hJ : ∀ pre W W', J pre W → Nb W W' → J pre W') (hY : Yld W0 hi l N J Jx) (yb : Nat) (hyb : hi ≤ yb) (L : Nat) (e : Bs) (pre : List Pt) (W : World) (hW : Nb W0 W) (y1 : AtM l yb W) (h0 : J pre W) (hN : pre.length + ([(L, hdM e)] : List Pt).length ≤ N) :
    Calls Tryd.prog 39 #[sV e, .int .i64 L, .pointer (some ⟨yb, 0, none⟩)] W (Goes (J := J) (Jx := Jx) W0.heap.size hi pre [(L, hdM e)] W) := by
    unfold AtM at y1
    have hyld := Lib.hid hY
    have hJh := Lib.hid hJ
    replace h0 := Lib.hid h0
    replace hN := Lib.hid hN
    clear hY hJ
    go_enter Tryd.func39, Tryd.ntmps39
    go_upto_region 1 with (fail)
    have g1 : Kp W0.heap.size hi W W.drew := Kp.of_nb hW.size ((Nb.refl W).drewN 1)
    have hnd : Nb W W.drew := (Nb.refl W).drewN 1
    refine wp_region_s 1 (by kernel_rfl) ?_
    change wpAnyIn _ _ _ _ _ _ 6 (List.toArray [false, false, false, false, false, false]) _ _
    refine stage (m := 2) (fuel := 4) (List.toArray [true, true, true, true, false, false]) (fun w' => Kp W0.heap.size hi W w') g1 (fun hG => ?_)
    refine takeS (i := 0) (v := .func (.yield l) #[] #[]) rfl (by kernel_rfl) (by kernel_rfl) (by kernel_rfl) (by kernel_rfl) (by kernel_rfl) (fun _ _ _ h => h) (.inl ⟨by rfl, by intro w' hw; have hc := cell_of_row _ _ 0 _ _ _ (hw.block hyb y1); go_simp⟩) hG ?_
    simp only [Act.put, List.setIfInBounds_toArray, List.set_cons_zero, List.set_cons_succ]
    refine takeS (i := 1) (v := .int .i64 (L : Int)) rfl (by kernel_rfl) (by kernel_rfl) (by kernel_rfl) (by kernel_rfl) (by kernel_rfl) (fun _ _ _ h => h) (.inl ⟨by rfl, by intro w' hw; go_simp⟩) hG ?_
    simp only [Act.put, List.setIfInBounds_toArray, List.set_cons_zero, List.set_cons_succ]
    refine takeS (i := 2) (v := sV e) rfl (by kernel_rfl) (by kernel_rfl) (by kernel_rfl) (by kernel_rfl) (by kernel_rfl) (fun _ _ _ h => h) (.inl ⟨by rfl, by intro w' hw; go_simp⟩) hG ?_
    simp only [Act.put, List.setIfInBounds_toArray, List.set_cons_zero, List.set_cons_succ]
    generalize W.drew = Wd at hG hnd ⊢
    clear g1
    refine onlyS (i := 3) (by kernel_rfl) rfl (by rfl) (fun K hK => ?_)
    go_simp
    refine ⟨trivial, callsIn_wide.2 ((headM_any e Wd).mono ?_)⟩
    rintro r w5 ⟨rfl, h5⟩
    replace hG := hG.trans (Kp.of_nb (Nat.le_trans hW.size hnd.size) h5)
    replace hnd := hnd.trans h5
    refine hK.out _ _ hG (fun _ => ?_)
    clear hK K
    simp only [Act.put, List.setIfInBounds_toArray, List.set_cons_zero, List.set_cons_succ]
    refine ⟨rfl, ?_⟩
    obtain ⟨fn, tmps, assign, body, hy, hR⟩ := hyld.out 0 pre (L, hdM e) w5 (hW.trans hnd) (hJh.out _ _ _ h0.out hnd) (by have := hN.out; rw [List.length_cons] at this; omega)
    refine onlyIn (i := 4) (by kernel_rfl) rfl (by rfl) (fun K hK => ?_)
    go_simp
    refine hR.mono ?_
    rintro r w6 (⟨rfl, hj6, hk6⟩ | ⟨rfl, hx6⟩)
    · refine hK.out _ _ ?_
      clear hK K
      simp only [Act.put, List.setIfInBounds_toArray, List.set_cons_zero, List.set_cons_succ]
      refine stage (m := 0) (fuel := 1) (List.toArray [true, true, true, true, true, true]) (fun _ => True) trivial (fun hT => ?_)
      refine takeS (i := 5) (v := .bool true) rfl (by kernel_rfl) (by kernel_rfl) (by kernel_rfl) (by kernel_rfl) (by kernel_rfl) (fun _ _ _ h => h) (.inl ⟨by rfl, by intro w' hw; go_simp⟩) trivial ?_
      simp only [Act.put, List.setIfInBounds_toArray, List.set_cons_zero, List.set_cons_succ]
      refine ⟨rfl, ?_⟩
      refine wpAnyIn_done (by kernel_rfl) ?_ _
      go_wp2_with fail
      go_ret
      exact .inl ⟨rfl, hj6, hG.trans hk6⟩
    · refine hK.out _ _ ?_
      clear hK K
      simp only [Act.put, List.setIfInBounds_toArray, List.set_cons_zero, List.set_cons_succ]
      refine stage (m := 0) (fuel := 1) (List.toArray [true, true, true, true, true, true]) (fun _ => True) trivial (fun hT => ?_)
      refine takeS (i := 5) (v := .bool false) rfl (by kernel_rfl) (by kernel_rfl) (by kernel_rfl) (by kernel_rfl) (by kernel_rfl) (fun _ _ _ h => h) (.inl ⟨by rfl, by intro w' hw; go_simp⟩) trivial ?_
      simp only [Act.put, List.setIfInBounds_toArray, List.set_cons_zero, List.set_cons_succ]
      refine ⟨rfl, ?_⟩
      refine wpAnyIn_done (by kernel_rfl) ?_ _
      go_wp2_with fail
      go_ret
      exact .inr ⟨rfl, [(L, hdM e)], ⟨[], by simp⟩, hx6⟩
theorem Df.okc {w : World} {e : Df} (hp : RowS w 1 e.pv (e.params.map fun s => [sV s])) (hb : e.body.Has w) : e.cells.toArray.all (·.oneCell') = true := by
  have h2 := Bd.okc hb
  obtain ⟨A, c, hv, -, -, -⟩ := hp.head
  unfold Df.cells
  rw [hv]
  rw [Array.all_eq_true_iff_forall_mem] at h2 ⊢
  intro x hx
  simp only [List.mem_toArray, List.mem_append, List.mem_cons, List.not_mem_nil, or_false] at hx h2
  rcases hx with (rfl | rfl | rfl) | hx
  · rfl
  · rfl
  · rfl
  · exact h2 x hx
theorem def_any (W0 : World) (hi l N : Nat) (J Jx : List Pt → World → Prop) (hJ : ∀ pre W W', J pre W → Nb W W' → J pre W') (hY : Yld W0 hi l N J Jx) (yb pb eb sb bb ab : Nat) (hH : Hi hi yb pb eb sb bb ab) (prb : Nat) (hpr : hi ≤ prb) (L : Nat) (hL : L + 65 = 65)
    (e : Df) (hpv : RowS W0 1 e.pv (e.params.map fun s => [sV s])) (hbd : e.body.Has W0) (pre : List Pt) (W : World) (hW : Nb W0 W) (hA : AtB l yb pb eb sb bb ab W) (m1 : W.heap[prb]? = some (.cells #[.func (.func 39) #[] #[.pointer (some ⟨yb, 0, none⟩)]] 86 (0, 0))) (h0 : J pre W) (hN : pre.length + (flD e).length ≤ N) :
    Calls Tryd.prog 41 #[.agg e.cells.toArray, .int .i64 L, .pointer (some ⟨yb, 0, none⟩), .pointer (some ⟨prb, 0, none⟩), .pointer (some ⟨bb, 0, none⟩)] W (Goes (J := J) (Jx := Jx) W0.heap.size hi pre (flD e) W) := by
    have hsz : hi ≤ W.heap.size := Nat.le_trans hH.y (Nat.le_of_lt (lt_blk hA.y))
    obtain ⟨P1, hP1⟩ : ∃ Z, (e.params.map (fun s => [((L, hdM s) : Pt)])).flatten = Z := ⟨_, rfl⟩
    obtain ⟨P2, hP2⟩ : ∃ Z, flB 65 e.body = Z := ⟨_, rfl⟩
    have hsing : e.params.map (fun s => ((0, hdM s) : Pt)) = P1 := by
      rw [← hP1, show L = 0 by omega]
      generalize e.params = l
      induction l with
      | nil => rfl
      | cons a l ih => simp only [List.map_cons, List.flatten_cons, ih]; rfl
    obtain ⟨F, hF⟩ : ∃ F, flD e = F := ⟨_, rfl⟩
    have hFe : F = (L, hdD e) :: (P1 ++ P2) := by rw [← hF, ← hP2, ← hsing, show L = 0 by omega]; rfl
    rw [hF] at hN ⊢
    have hbody := Lib.hid (body_any W0 hi l N J Jx hJ hY yb pb eb sb bb ab hH 65 (L + 1) (by omega) e.body hbd)
    rw [hP2] at hbody
    have hparam := Lib.hid (param_any W0 hi l N J Jx hJ hY yb hH.y L)
    have hwr : IntKind.i64.wrap ((L : Int) + 1) = ((L + 1 : Nat) : Int) := by rw [IntKind.wrap_i64]; omega
    have hyld := Lib.hid hY
    have hJh := Lib.hid hJ
    replace h0 := Lib.hid h0
    replace hFe := Lib.hid hFe
    replace hN := Lib.hid hN
    replace hP1 := Lib.hid hP1
    have hLh := Lib.hid hL
    clear hF hY hJ hP2 hsing
    go_enter Tryd.func41, Tryd.ntmps41
    go_upto_region 1 with (fail)
    obtain ⟨W1, hW1⟩ : ∃ W1, W.alloc (Obj.cells e.cells.toArray 46) = W1 := ⟨_, rfl⟩
    have n1 : Nb W W1 := by rw [← hW1]; exact (Nb.refl W).alloc _
    have b1 : W1.heap[W.heap.size]? = some (.cells e.cells.toArray 46 (0, 0)) := by rw [← hW1]; exact new_blk W _ rfl
    rw [hW1]
    clear hW1
    have g1 : Kp W0.heap.size hi W1 W1.drew := Kp.of_nb (Nat.le_trans hW.size n1.size) ((Nb.refl W1).drewN 1)
    have hnd : Nb W W1.drew := n1.trans ((Nb.refl W1).drewN 1)
    have y1 := n1.block hA.y
    have hA2 := hA.nb n1
    replace m1 := n1.block m1
    clear hA
    refine wp_region_s 1 (by kernel_rfl) ?_
    change wpAnyIn _ _ _ _ _ _ 21 (List.toArray [false, false, false, false, false, false, false, false, false, false, false, false, false, false, false, false, false, false, false, false, false]) _ _
    refine stage (m := 17) (fuel := 4) (List.toArray [true, true, true, true, false, false, false, false, false, false, false, false, false, false, false, false, false, false, false, false, false]) (fun w' => Kp W0.heap.size hi W1 w') g1 (fun hG => ?_)
    refine takeS (i := 0) (v := .func (.yield l) #[] #[]) rfl (by kernel_rfl) (by kernel_rfl) (by kernel_rfl) (by kernel_rfl) (by kernel_rfl) (fun _ _ _ h => h) (.inl ⟨by rfl, by intro w' hw; have hc := cell_of_row _ _ 0 _ _ _ (hw.block hH.y y1); go_simp⟩) hG ?_
    simp only [Act.put, List.setIfInBounds_toArray, List.set_cons_zero, List.set_cons_succ]
    refine takeS (i := 1) (v := .int .i64 (L : Int)) rfl (by kernel_rfl) (by kernel_rfl) (by kernel_rfl) (by kernel_rfl) (by kernel_rfl) (fun _ _ _ h => h) (.inl ⟨by rfl, by intro w' hw; go_simp⟩) hG ?_
    simp only [Act.put, List.setIfInBounds_toArray, List.set_cons_zero, List.set_cons_succ]
    refine takeS (i := 2) (v := .agg e.cells.toArray) rfl (by kernel_rfl) (by kernel_rfl) (by kernel_rfl) (by kernel_rfl) (by kernel_rfl) (fun _ _ _ h => h) (yields_load' (by rfl) 46 (.tmp 5) rfl _ rfl _ (fun w' hw => run_loadVar_row _ _ _ _ _ _ _ (hw.block hsz b1) (Tryd.underlying46) rfl (by kernel_rfl))) hG ?_
    simp only [Act.put, List.setIfInBounds_toArray, List.set_cons_zero, List.set_cons_succ]
    generalize W1.drew = Wd at hG hnd ⊢
    clear g1
    refine onlyS (i := 3) (by kernel_rfl) rfl (by rfl) (fun K hK => ?_)
    go_simp
    refine ⟨trivial, callsIn_wide.2 ((headD_any W0 e hpv Wd).mono ?_)⟩
    rintro r w5 ⟨rfl, h5⟩
    replace hG := hG.trans (Kp.of_nb (Nat.le_trans hW.size hnd.size) h5)
    replace hnd := hnd.trans h5
    refine hK.out _ _ hG (fun _ => ?_)
    clear hK K
    simp only [Act.put, List.setIfInBounds_toArray, List.set_cons_zero, List.set_cons_succ]
    refine ⟨rfl, ?_⟩
    obtain ⟨fn, tmps, assign, body, hy, hR⟩ := hyld.out 0 pre (L, hdD e) w5 (hW.trans hnd) (hJh.out _ _ _ h0.out hnd) (by have := hN.out; rw [hFe.out, List.length_cons] at this; omega)
    refine onlyIn (i := 4) (by kernel_rfl) rfl (by rfl) (fun K hK => ?_)
    go_simp
    refine hR.mono ?_
    rintro r w6 (⟨rfl, hj6, hk6⟩ | ⟨rfl, hx6⟩)
    have hn5 : Nb W0 w5 := hW.trans hnd
    · replace hG := hG.trans hk6
      have hn6 : Nb W0 w6 := hn5.trans' hk6
      refine hK.out _ _ ?_
      clear hK K
      simp only [Act.put, List.setIfInBounds_toArray, List.set_cons_zero, List.set_cons_succ]
      refine stage (m := 11) (fuel := 5) (List.toArray [true, true, true, true, true, true, true, true, true, true, false, false, false, false, false, false, false, false, false, false, false]) (fun w' => Kp W0.heap.size hi W1 w') hG (fun hG => ?_)
      refine takeS (i := 5) (v := .bool true) rfl (by kernel_rfl) (by kernel_rfl) (by kernel_rfl) (by kernel_rfl) (by kernel_rfl) (fun _ _ _ h => h) (.inl ⟨by rfl, by intro w' hw; go_simp⟩) hG ?_
      simp only [Act.put, List.setIfInBounds_toArray, List.set_cons_zero, List.set_cons_succ]
      refine takeS (i := 6) (v := .pointer (some ⟨W.heap.size, 2, none⟩)) rfl (by kernel_rfl) (by kernel_rfl) (by kernel_rfl) (by kernel_rfl) (by kernel_rfl) (fun _ _ _ h => h) (.inl ⟨by rfl, by intro w' hw; go_simp⟩) hG ?_
      simp only [Act.put, List.setIfInBounds_toArray, List.set_cons_zero, List.set_cons_succ]
      refine takeS (i := 7) (v := e.pv) rfl (by kernel_rfl) (by kernel_rfl) (by kernel_rfl) (by kernel_rfl) (by kernel_rfl) (fun _ _ _ h => h) (.inl ⟨by rfl, by intro w' hw; have hc : w'.cell? ⟨W.heap.size, 2, none⟩ = some (e.pv) := cell_of_row _ _ 2 _ _ _ (hw.block hsz b1); go_simp⟩) hG ?_
      simp only [Act.put, List.setIfInBounds_toArray, List.set_cons_zero, List.set_cons_succ]
      refine takeS (i := 8) (v := .int .i64 (L : Int)) rfl (by kernel_rfl) (by kernel_rfl) (by kernel_rfl) (by kernel_rfl) (by kernel_rfl) (fun _ _ _ h => h) (.inl ⟨by rfl, by intro w' hw; go_simp⟩) hG ?_
      simp only [Act.put, List.setIfInBounds_toArray, List.set_cons_zero, List.set_cons_succ]
      refine takeS (i := 9) (v := .func (.func 39) #[] #[.pointer (some ⟨yb, 0, none⟩)]) rfl (by kernel_rfl) (by kernel_rfl) (by kernel_rfl) (by kernel_rfl) (by kernel_rfl) (fun _ _ _ h => h) (.inl ⟨by rfl, by intro w' hw; have hc := cell_of_row _ _ 0 _ _ _ (hw.block hpr m1); go_simp⟩) hG ?_
      simp only [Act.put, List.setIfInBounds_toArray, List.set_cons_zero, List.set_cons_succ]
      refine ⟨rfl, ?_⟩
      have hcall := (show Calls Tryd.prog 43 _ w6 (Goes (J := J) (Jx := Jx) W0.heap.size hi (pre ++ [(L, hdD e)]) P1 w6) from by rw [← hP1.out]; exact eachM_any W0 hi N J Jx hJh.out L (by have := hLh.out; omega) yb (AtM l yb) (fun A B k h => k.block hH.y h) (fun s => [((L, hdM s) : Pt)]) e.params (fun x hx pre W hnb hA hj hle => hparam.out x pre W hnb hA hj hle) e.pv hpv (pre ++ [(L, hdD e)]) w6 hn6 (AtB.kp hH hG hA2).y hj6 (by rw [hP1.out]; exact (by have := hN.out; rw [hFe.out] at this; simp only [List.length_append, List.length_cons, List.length_nil] at this ⊢; omega)))
      refine onlyIn (i := 10) (by kernel_rfl) rfl (by rfl) (fun K hK => ?_)
      go_simp
      refine ⟨trivial, callsIn_wide.2 (hcall.mono ?_)⟩
      clear hcall
      rintro r w7 (⟨rfl, hj7, hk7⟩ | ⟨rfl, q, hq, hx7⟩)
      · replace hG := hG.trans hk7
        have hn7 : Nb W0 w7 := hn6.trans' hk7
        refine hK.out _ _ ?_
        clear hK K
        simp only [Act.put, List.setIfInBounds_toArray, List.set_cons_zero, List.set_cons_succ]
        refine stage (m := 3) (fuel := 7) (List.toArray [true, true, true, true, true, true, true, true, true, true, true, true, true, true, true, true, true, true, false, false, false]) (fun w' => Kp W0.heap.size hi W1 w') hG (fun hG => ?_)
        refine takeS (i := 11) (v := .bool true) rfl (by kernel_rfl) (by kernel_rfl) (by kernel_rfl) (by kernel_rfl) (by kernel_rfl) (fun _ _ _ h => h) (.inl ⟨by rfl, by intro w' hw; go_simp⟩) hG ?_
        simp only [Act.put, List.setIfInBounds_toArray, List.set_cons_zero, List.set_cons_succ]
        refine takeS (i := 12) (v := .bool true) rfl (by kernel_rfl) (by kernel_rfl) (by kernel_rfl) (by kernel_rfl) (by kernel_rfl) (fun _ _ _ h => h) (.inl ⟨by rfl, by intro w' hw; go_simp⟩) hG ?_
        simp only [Act.put, List.setIfInBounds_toArray, List.set_cons_zero, List.set_cons_succ]
        refine takeS (i := 13) (v := .func (.func 34) #[] #[.pointer (some ⟨yb, 0, none⟩), .pointer (some ⟨sb, 0, none⟩), .pointer (some ⟨eb, 0, none⟩), .pointer (some ⟨bb, 0, none⟩), .pointer (some ⟨ab, 0, none⟩)]) rfl (by kernel_rfl) (by kernel_rfl) (by kernel_rfl) (by kernel_rfl) (by kernel_rfl) (fun _ _ _ h => h) (.inl ⟨by rfl, by intro w' hw; have hc := cell_of_row _ _ 0 _ _ _ (hw.block hH.b hA2.b); go_simp⟩) hG ?_
        simp only [Act.put, List.setIfInBounds_toArray, List.set_cons_zero, List.set_cons_succ]
        refine takeS (i := 14) (v := .pointer (some ⟨W.heap.size, 3, none⟩)) rfl (by kernel_rfl) (by kernel_rfl) (by kernel_rfl) (by kernel_rfl) (by kernel_rfl) (fun _ _ _ h => h) (.inl ⟨by rfl, by intro w' hw; go_simp⟩) hG ?_
        simp only [Act.put, List.setIfInBounds_toArray, List.set_cons_zero, List.set_cons_succ]
        refine takeS (i := 15) (v := .agg e.body.cells.toArray) rfl (by kernel_rfl) (by kernel_rfl) (by kernel_rfl) (by kernel_rfl) (by kernel_rfl) (fun _ _ _ h => h) (yieldsIf_load_mid (by rfl) 44 (.tmp 22) rfl W.heap.size 3 rfl e.body.cells _ (fun w' hw => range_in [.int .i64 e.at_, sV e.name, e.pv] e.body.cells [] rfl (hw.block hsz b1)) (Tryd.underlying44) rfl (by kernel_rfl)) hG ?_
        simp only [Act.put, List.setIfInBounds_toArray, List.set_cons_zero, List.set_cons_succ]
        refine takeS (i := 16) (v := .int .i64 (L : Int)) rfl (by kernel_rfl) (by kernel_rfl) (by kernel_rfl) (by kernel_rfl) (by kernel_rfl) (fun _ _ _ h => h) (.inl ⟨by rfl, by intro w' hw; go_simp⟩) hG ?_
        simp only [Act.put, List.setIfInBounds_toArray, List.set_cons_zero, List.set_cons_succ]
        refine takeS (i := 17) (v := .int .i64 ((L + 1 : Nat) : Int)) rfl (by kernel_rfl) (by kernel_rfl) (by kernel_rfl) (by kernel_rfl) (by kernel_rfl) (fun _ _ _ h => h) (.inl ⟨by rfl, by intro w' hw; go_simp⟩) hG ?_
        simp only [Act.put, List.setIfInBounds_toArray, List.set_cons_zero, List.set_cons_succ]
        refine ⟨rfl, ?_⟩
        have hcall := hbody.out (pre ++ [(L, hdD e)] ++ P1) w7 hn7 (AtB.kp hH hG hA2) hj7 (by have := hN.out; rw [hFe.out] at this; simp only [List.length_append, List.length_cons, List.length_nil] at this ⊢; omega)
        refine onlyIn (i := 18) (by kernel_rfl) rfl (by rfl) (fun K hK => ?_)
        go_simp
        refine ⟨trivial, callsIn_wide.2 (hcall.mono ?_)⟩
        clear hcall
        rintro r w8 (⟨rfl, hj8, hk8⟩ | ⟨rfl, q, hq, hx8⟩)
        · replace hG := hG.trans hk8
          have hn8 : Nb W0 w8 := hn7.trans' hk8
          refine hK.out _ _ ?_
          clear hK K
          simp only [Act.put, List.setIfInBounds_toArray, List.set_cons_zero, List.set_cons_succ]
          refine stage (m := 0) (fuel := 2) (List.toArray [true, true, true, true, true, true, true, true, true, true, true, true, true, true, true, true, true, true, true, true, true]) (fun _ => True) trivial (fun hT => ?_)
          refine takeS (i := 19) (v := .bool true) rfl (by kernel_rfl) (by kernel_rfl) (by kernel_rfl) (by kernel_rfl) (by kernel_rfl) (fun _ _ _ h => h) (.inl ⟨by rfl, by intro w' hw; go_simp⟩) trivial ?_
          simp only [Act.put, List.setIfInBounds_toArray, List.set_cons_zero, List.set_cons_succ]
          refine takeS (i := 20) (v := .bool true) rfl (by kernel_rfl) (by kernel_rfl) (by kernel_rfl) (by kernel_rfl) (by kernel_rfl) (fun _ _ _ h => h) (.inl ⟨by rfl, by intro w' hw; go_simp⟩) trivial ?_
          simp only [Act.put, List.setIfInBounds_toArray, List.set_cons_zero, List.set_cons_succ]
          refine ⟨rfl, ?_⟩
          refine wpAnyIn_done (by kernel_rfl) ?_ _
          go_wp2_with fail
          go_ret
          exact .inl ⟨rfl, by rw [hFe.out]; simpa [List.append_assoc] using hj8, (Kp.of_nb hW.size n1).trans hG⟩
        · refine hK.out _ _ ?_
          clear hK K
          simp only [Act.put, List.setIfInBounds_toArray, List.set_cons_zero, List.set_cons_succ]
          refine stage (m := 0) (fuel := 2) (List.toArray [true, true, true, true, true, true, true, true, true, true, true, true, true, true, true, true, true, true, true, true, true]) (fun _ => True) trivial (fun hT => ?_)
          refine takeS (i := 19) (v := .bool false) rfl (by kernel_rfl) (by kernel_rfl) (by kernel_rfl) (by kernel_rfl) (by kernel_rfl) (fun _ _ _ h => h) (.inl ⟨by rfl, by intro w' hw; go_simp⟩) trivial ?_
          simp only [Act.put, List.setIfInBounds_toArray, List.set_cons_zero, List.set_cons_succ]
          refine takeS (i := 20) (v := .bool false) rfl (by kernel_rfl) (by kernel_rfl) (by kernel_rfl) (by kernel_rfl) (by kernel_rfl) (fun _ _ _ h => h) (.inl ⟨by rfl, by intro w' hw; go_simp⟩) trivial ?_
          simp only [Act.put, List.setIfInBounds_toArray, List.set_cons_zero, List.set_cons_succ]
          refine ⟨rfl, ?_⟩
          refine wpAnyIn_done (by kernel_rfl) ?_ _
          go_wp2_with fail
          go_ret
          exact .inr ⟨rfl, (L, hdD e) :: (P1 ++ q), by rw [hFe.out]; obtain ⟨t, ht⟩ := hq; exact ⟨t, by rw [← ht]; simp [List.append_assoc]⟩, by simpa [List.append_assoc] using hx8⟩
      · refine hK.out _ _ ?_
        clear hK K
        simp only [Act.put, List.setIfInBounds_toArray, List.set_cons_zero, List.set_cons_succ]
        refine stage (m := 0) (fuel := 10) (List.toArray [true, true, true, true, true, true, true, true, true, true, true, true, true, true, true, true, true, true, true, true, true]) (fun _ => True) trivial (fun hT => ?_)
        refine takeS (i := 11) (v := .bool false) rfl (by kernel_rfl) (by kernel_rfl) (by kernel_rfl) (by kernel_rfl) (by kernel_rfl) (fun _ _ _ h => h) (.inl ⟨by rfl, by intro w' hw; go_simp⟩) trivial ?_
        simp only [Act.put, List.setIfInBounds_toArray, List.set_cons_zero, List.set_cons_succ]
        refine takeS (i := 12) (v := .bool false) rfl (by kernel_rfl) (by kernel_rfl) (by kernel_rfl) (by kernel_rfl) (by kernel_rfl) (fun _ _ _ h => h) (.inl ⟨by rfl, by intro w' hw; go_simp⟩) trivial ?_
        simp only [Act.put, List.setIfInBounds_toArray, List.set_cons_zero, List.set_cons_succ]
        refine takeS (i := 13) (v := undef) rfl (by kernel_rfl) (by kernel_rfl) (by kernel_rfl) (by kernel_rfl) (by kernel_rfl) (fun _ _ _ h => h) (.inr ⟨by rfl, rfl⟩) trivial ?_
        simp only [Act.put, List.setIfInBounds_toArray, List.set_cons_zero, List.set_cons_succ]
        refine takeS (i := 14) (v := undef) rfl (by kernel_rfl) (by kernel_rfl) (by kernel_rfl) (by kernel_rfl) (by kernel_rfl) (fun _ _ _ h => h) (.inr ⟨by rfl, rfl⟩) trivial ?_
        simp only [Act.put, List.setIfInBounds_toArray, List.set_cons_zero, List.set_cons_succ]
        refine takeS (i := 15) (v := undef) rfl (by kernel_rfl) (by kernel_rfl) (by kernel_rfl) (by kernel_rfl) (by kernel_rfl) (fun _ _ _ h => h) (.inr ⟨by rfl, rfl⟩) trivial ?_
        simp only [Act.put, List.setIfInBounds_toArray, List.set_cons_zero, List.set_cons_succ]
        refine takeS (i := 16) (v := undef) rfl (by kernel_rfl) (by kernel_rfl) (by kernel_rfl) (by kernel_rfl) (by kernel_rfl) (fun _ _ _ h => h) (.inr ⟨by rfl, rfl⟩) trivial ?_
        simp only [Act.put, List.setIfInBounds_toArray, List.set_cons_zero, List.set_cons_succ]
        refine takeS (i := 17) (v := undef) rfl (by kernel_rfl) (by kernel_rfl) (by kernel_rfl) (by kernel_rfl) (by kernel_rfl) (fun _ _ _ h => h) (.inr ⟨by rfl, rfl⟩) trivial ?_
        simp only [Act.put, List.setIfInBounds_toArray, List.set_cons_zero, List.set_cons_succ]
        refine takeS (i := 18) (v := undef) rfl (by kernel_rfl) (by kernel_rfl) (by kernel_rfl) (by kernel_rfl) (by kernel_rfl) (fun _ _ _ h => h) (.inr ⟨by rfl, rfl⟩) trivial ?_
        simp only [Act.put, List.setIfInBounds_toArray, List.set_cons_zero, List.set_cons_succ]
        refine takeS (i := 19) (v := .bool false) rfl (by kernel_rfl) (by kernel_rfl) (by kernel_rfl) (by kernel_rfl) (by kernel_rfl) (fun _ _ _ h => h) (.inl ⟨by rfl, by intro w' hw; go_simp⟩) trivial ?_
        simp only [Act.put, List.setIfInBounds_toArray, List.set_cons_zero, List.set_cons_succ]
        refine takeS (i := 20) (v := .bool false) rfl (by kernel_rfl) (by kernel_rfl) (by kernel_rfl) (by kernel_rfl) (by kernel_rfl) (fun _ _ _ h => h) (.inl ⟨by rfl, by intro w' hw; go_simp⟩) trivial ?_
        simp only [Act.put, List.setIfInBounds_toArray, List.set_cons_zero, List.set_cons_succ]
        refine ⟨rfl, ?_⟩
        refine wpAnyIn_done (by kernel_rfl) ?_ _
        go_wp2_with fail
        go_ret
        exact .inr ⟨rfl, (L, hdD e) :: (q), by rw [hFe.out]; obtain ⟨t, ht⟩ := hq; exact ⟨t ++ P2, by rw [← ht]; simp [List.append_assoc]⟩, by simpa [List.append_assoc] using hx7⟩
    · refine hK.out _ _ ?_
      clear hK K
      simp only [Act.put, List.setIfInBounds_toArray, List.set_cons_zero, List.set_cons_succ]
      refine stage (m := 0) (fuel := 16) (List.toArray [true, true, true, true, true, true, true, true, true, true, true, true, true, true, true, true, true, true, true, true, true]) (fun _ => True) trivial (fun hT => ?_)
      refine takeS (i := 5) (v := .bool false) rfl (by kernel_rfl) (by kernel_rfl) (by kernel_rfl) (by kernel_rfl) (by kernel_rfl) (fun _ _ _ h => h) (.inl ⟨by rfl, by intro w' hw; go_simp⟩) trivial ?_
      simp only [Act.put, List.setIfInBounds_toArray, List.set_cons_zero, List.set_cons_succ]
      refine takeS (i := 6) (v := undef) rfl (by kernel_rfl) (by kernel_rfl) (by kernel_rfl) (by kernel_rfl) (by kernel_rfl) (fun _ _ _ h => h) (.inr ⟨by rfl, rfl⟩) trivial ?_
      simp only [Act.put, List.setIfInBounds_toArray, List.set_cons_zero, List.set_cons_succ]
      refine takeS (i := 7) (v := undef) rfl (by kernel_rfl) (by kernel_rfl) (by kernel_rfl) (by kernel_rfl) (by kernel_rfl) (fun _ _ _ h => h) (.inr ⟨by rfl, rfl⟩) trivial ?_
      simp only [Act.put, List.setIfInBounds_toArray, List.set_cons_zero, List.set_cons_succ]
      refine takeS (i := 8) (v := undef) rfl (by kernel_rfl) (by kernel_rfl) (by kernel_rfl) (by kernel_rfl) (by kernel_rfl) (fun _ _ _ h => h) (.inr ⟨by rfl, rfl⟩) trivial ?_
      simp only [Act.put, List.setIfInBounds_toArray, List.set_cons_zero, List.set_cons_succ]
      refine takeS (i := 9) (v := undef) rfl (by kernel_rfl) (by kernel_rfl) (by kernel_rfl) (by kernel_rfl) (by kernel_rfl) (fun _ _ _ h => h) (.inr ⟨by rfl, rfl⟩) trivial ?_
      simp only [Act.put, List.setIfInBounds_toArray, List.set_cons_zero, List.set_cons_succ]
      refine takeS (i := 10) (v := undef) rfl (by kernel_rfl) (by kernel_rfl) (by kernel_rfl) (by kernel_rfl) (by kernel_rfl) (fun _ _ _ h => h) (.inr ⟨by rfl, rfl⟩) trivial ?_
      simp only [Act.put, List.setIfInBounds_toArray, List.set_cons_zero, List.set_cons_succ]
      refine takeS (i := 11) (v := .bool false) rfl (by kernel_rfl) (by kernel_rfl) (by kernel_rfl) (by kernel_rfl) (by kernel_rfl) (fun _ _ _ h => h) (.inl ⟨by rfl, by intro w' hw; go_simp⟩) trivial ?_
      simp only [Act.put, List.setIfInBounds_toArray, List.set_cons_zero, List.set_cons_succ]
      refine takeS (i := 12) (v := .bool false) rfl (by kernel_rfl) (by kernel_rfl) (by kernel_rfl) (by kernel_rfl) (by kernel_rfl) (fun _ _ _ h => h) (.inl ⟨by rfl, by intro w' hw; go_simp⟩) trivial ?_
      simp only [Act.put, List.setIfInBounds_toArray, List.set_cons_zero, List.set_cons_succ]
      refine takeS (i := 13) (v := undef) rfl (by kernel_rfl) (by kernel_rfl) (by kernel_rfl) (by kernel_rfl) (by kernel_rfl) (fun _ _ _ h => h) (.inr ⟨by rfl, rfl⟩) trivial ?_
      simp only [Act.put, List.setIfInBounds_toArray, List.set_cons_zero, List.set_cons_succ]
      refine takeS (i := 14) (v := undef) rfl (by kernel_rfl) (by kernel_rfl) (by kernel_rfl) (by kernel_rfl) (by kernel_rfl) (fun _ _ _ h => h) (.inr ⟨by rfl, rfl⟩) trivial ?_
      simp only [Act.put, List.setIfInBounds_toArray, List.set_cons_zero, List.set_cons_succ]
      refine takeS (i := 15) (v := undef) rfl (by kernel_rfl) (by kernel_rfl) (by kernel_rfl) (by kernel_rfl) (by kernel_rfl) (fun _ _ _ h => h) (.inr ⟨by rfl, rfl⟩) trivial ?_
      simp only [Act.put, List.setIfInBounds_toArray, List.set_cons_zero, List.set_cons_succ]
      refine takeS (i := 16) (v := undef) rfl (by kernel_rfl) (by kernel_rfl) (by kernel_rfl) (by kernel_rfl) (by kernel_rfl) (fun _ _ _ h => h) (.inr ⟨by rfl, rfl⟩) trivial ?_
      simp only [Act.put, List.setIfInBounds_toArray, List.set_cons_zero, List.set_cons_succ]
      refine takeS (i := 17) (v := undef) rfl (by kernel_rfl) (by kernel_rfl) (by kernel_rfl) (by kernel_rfl) (by kernel_rfl) (fun _ _ _ h => h) (.inr ⟨by rfl, rfl⟩) trivial ?_
      simp only [Act.put, List.setIfInBounds_toArray, List.set_cons_zero, List.set_cons_succ]
      refine takeS (i := 18) (v := undef) rfl (by kernel_rfl) (by kernel_rfl) (by kernel_rfl) (by kernel_rfl) (by kernel_rfl) (fun _ _ _ h => h) (.inr ⟨by rfl, rfl⟩) trivial ?_
      simp only [Act.put, List.setIfInBounds_toArray, List.set_cons_zero, List.set_cons_succ]
      refine takeS (i := 19) (v := .bool false) rfl (by kernel_rfl) (by kernel_rfl) (by kernel_rfl) (by kernel_rfl) (by kernel_rfl) (fun _ _ _ h => h) (.inl ⟨by rfl, by intro w' hw; go_simp⟩) trivial ?_
      simp only [Act.put, List.setIfInBounds_toArray, List.set_cons_zero, List.set_cons_succ]
      refine takeS (i := 20) (v := .bool false) rfl (by kernel_rfl) (by kernel_rfl) (by kernel_rfl) (by kernel_rfl) (by kernel_rfl) (fun _ _ _ h => h) (.inl ⟨by rfl, by intro w' hw; go_simp⟩) trivial ?_
      simp only [Act.put, List.setIfInBounds_toArray, List.set_cons_zero, List.set_cons_succ]
      refine ⟨rfl, ?_⟩
      refine wpAnyIn_done (by kernel_rfl) ?_ _
      go_wp2_with fail
      go_ret
      exact .inr ⟨rfl, [(L, hdD e)], by rw [hFe.out]; exact ⟨_, rfl⟩, hx6⟩
end Go.Proofs.YtojogolmcclpoaaDoor
