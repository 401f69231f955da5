/-
  Proved here: the code's walk over the parts of a program. Conditions: the memory holds it.
-/
import Derived.Test.YtojogolmcclpoaaDoorSal
import Derived.Laws.EntriesVeiled
namespace Go.Proofs.YtojogolmcclpoaaDoor
open Go.RowKit
set_option linter.unusedVariables false
set_option linter.unusedSimpArgs false
set_option maxRecDepth 100000
set_option maxHeartbeats 4000000
theorem parts1_any (W0 : World) (hi l N : Nat) (J Jx : List Pt → World → Prop) (hJ : ∀ pre W W', J pre W → Nb W W' → J pre W') (hY : Yld W0 hi l N J Jx) (e : Pg) (he : e.Has W0) (PB : Nat) (W : World) (hW : Nb W0 W) (hhi : hi ≤ PB) (hPB : W.heap[PB]? = some (.cells e.cells.toArray 25 (0, 0))) (h0 : J [] W) (hN : (flP e).length ≤ N) :
    Calls Tryd.prog 23 #[.func (.yield l) #[] #[], .pointer (some ⟨PB, 0, none⟩)] W fun r W' => (∃ v, r = .returned v) ∧ ((J (flP e) W') ∨ ∃ pre, pre <+: flP e ∧ Jx pre W') := by
    obtain ⟨P1, hP1⟩ : ∃ Z, (e.defs.map flD).flatten = Z := ⟨_, rfl⟩
    obtain ⟨P2, hP2⟩ : ∃ Z, flEs hdE 65 e.args = Z := ⟨_, rfl⟩
    obtain ⟨F, hF⟩ : ∃ F, flP e = F := ⟨_, rfl⟩
    have hFe : F = (0, hdP e) :: (P1 ++ P2) := by rw [← hF, ← hP1, ← hP2]; rfl
    rw [hF] at hN ⊢
    have hyld := Lib.hid hY
    have hJh := Lib.hid hJ
    replace h0 := Lib.hid h0
    replace hFe := Lib.hid hFe
    replace hN := Lib.hid hN
    replace hP1 := Lib.hid hP1
    replace hP2 := Lib.hid hP2
    clear hF
    go_enter Tryd.func23, Tryd.ntmps23
    go_upto_region 11 with (fail)
    obtain ⟨yb, s0⟩ : ∃ y, W.heap.size = y := ⟨_, rfl⟩
    rw [s0]
    have hlt := lt_blk hPB
    have m0 := Nb.refl W
    obtain ⟨A1, h1⟩ : ∃ A, W.alloc (.cells #[.func (.yield l) #[] #[]] 64) = A := ⟨_, rfl⟩
    have t0 : A1.heap[yb]? = some (.cells #[.func (.yield l) #[] #[]] 64 (0, 0)) := by rw [← h1]; exact new_blk _ _ s0
    have s1 : A1.heap.size = yb + 1 := by rw [← h1, World.size_alloc, s0]
    have g1 : Nb W A1 := by rw [← h1]; exact alloc_nb _ _
    have m1 := m0.trans g1
    rw [h1]
    clear h1
    obtain ⟨A2, h2⟩ : ∃ A, A1.alloc (.cells #[.func (.func 24) #[] #[.pointer (some ⟨yb, 0, none⟩), .pointer (some ⟨yb + 1, 0, none⟩)]] 65) = A := ⟨_, rfl⟩
    have t1 : A2.heap[yb + 1]? = some (.cells #[.func (.func 24) #[] #[.pointer (some ⟨yb, 0, none⟩), .pointer (some ⟨yb + 1, 0, none⟩)]] 65 (0, 0)) := by rw [← h2]; exact new_blk _ _ s1
    have s2 : A2.heap.size = yb + 1 + 1 := by rw [← h2, World.size_alloc, s1]
    have g2 : Nb A1 A2 := by rw [← h2]; exact alloc_nb _ _
    have m2 := m1.trans g2
    rw [h2]
    clear h2
    replace t0 := g2.block t0
    obtain ⟨A3, h3⟩ : ∃ A, A2.alloc (.cells #[.func (.func 27) #[] #[.pointer (some ⟨yb, 0, none⟩), .pointer (some ⟨yb + 1 + 1, 0, none⟩)]] 68) = A := ⟨_, rfl⟩
    have t2 : A3.heap[yb + 1 + 1]? = some (.cells #[.func (.func 27) #[] #[.pointer (some ⟨yb, 0, none⟩), .pointer (some ⟨yb + 1 + 1, 0, none⟩)]] 68 (0, 0)) := by rw [← h3]; exact new_blk _ _ s2
    have s3 : A3.heap.size = yb + 1 + 1 + 1 := by rw [← h3, World.size_alloc, s2]
    have g3 : Nb A2 A3 := by rw [← h3]; exact alloc_nb _ _
    have m3 := m2.trans g3
    rw [h3]
    clear h3
    replace t0 := g3.block t0
    replace t1 := g3.block t1
    obtain ⟨A4, h4⟩ : ∃ A, A3.alloc (.cells #[.func (.func 30) #[] #[.pointer (some ⟨yb, 0, none⟩), .pointer (some ⟨yb + 1, 0, none⟩)]] 75) = A := ⟨_, rfl⟩
    have t3 : A4.heap[yb + 1 + 1 + 1]? = some (.cells #[.func (.func 30) #[] #[.pointer (some ⟨yb, 0, none⟩), .pointer (some ⟨yb + 1, 0, none⟩)]] 75 (0, 0)) := by rw [← h4]; exact new_blk _ _ s3
    have s4 : A4.heap.size = yb + 1 + 1 + 1 + 1 := by rw [← h4, World.size_alloc, s3]
    have g4 : Nb A3 A4 := by rw [← h4]; exact alloc_nb _ _
    have m4 := m3.trans g4
    rw [h4]
    clear h4
    replace t0 := g4.block t0
    replace t1 := g4.block t1
    replace t2 := g4.block t2
    obtain ⟨A5, h5⟩ : ∃ A, A4.alloc (.cells #[.func (.func 34) #[] #[.pointer (some ⟨yb, 0, none⟩), .pointer (some ⟨yb + 1 + 1 + 1, 0, none⟩), .pointer (some ⟨yb + 1, 0, none⟩), .pointer (some ⟨yb + 1 + 1 + 1 + 1, 0, none⟩), .pointer (some ⟨yb + 1 + 1 + 1 + 1 + 1, 0, none⟩)]] 76) = A := ⟨_, rfl⟩
    have t4 : A5.heap[yb + 1 + 1 + 1 + 1]? = some (.cells #[.func (.func 34) #[] #[.pointer (some ⟨yb, 0, none⟩), .pointer (some ⟨yb + 1 + 1 + 1, 0, none⟩), .pointer (some ⟨yb + 1, 0, none⟩), .pointer (some ⟨yb + 1 + 1 + 1 + 1, 0, none⟩), .pointer (some ⟨yb + 1 + 1 + 1 + 1 + 1, 0, none⟩)]] 76 (0, 0)) := by rw [← h5]; exact new_blk _ _ s4
    have s5 : A5.heap.size = yb + 1 + 1 + 1 + 1 + 1 := by rw [← h5, World.size_alloc, s4]
    have g5 : Nb A4 A5 := by rw [← h5]; exact alloc_nb _ _
    have m5 := m4.trans g5
    rw [h5]
    clear h5
    replace t0 := g5.block t0
    replace t1 := g5.block t1
    replace t2 := g5.block t2
    replace t3 := g5.block t3
    obtain ⟨A6, h6⟩ : ∃ A, A5.alloc (.cells #[.func (.func 32) #[] #[.pointer (some ⟨yb, 0, none⟩), .pointer (some ⟨yb + 1 + 1, 0, none⟩), .pointer (some ⟨yb + 1, 0, none⟩), .pointer (some ⟨yb + 1 + 1 + 1 + 1, 0, none⟩)]] 80) = A := ⟨_, rfl⟩
    have t5 : A6.heap[yb + 1 + 1 + 1 + 1 + 1]? = some (.cells #[.func (.func 32) #[] #[.pointer (some ⟨yb, 0, none⟩), .pointer (some ⟨yb + 1 + 1, 0, none⟩), .pointer (some ⟨yb + 1, 0, none⟩), .pointer (some ⟨yb + 1 + 1 + 1 + 1, 0, none⟩)]] 80 (0, 0)) := by rw [← h6]; exact new_blk _ _ s5
    have s6 : A6.heap.size = yb + 1 + 1 + 1 + 1 + 1 + 1 := by rw [← h6, World.size_alloc, s5]
    have g6 : Nb A5 A6 := by rw [← h6]; exact alloc_nb _ _
    have m6 := m5.trans g6
    rw [h6]
    clear h6
    replace t0 := g6.block t0
    replace t1 := g6.block t1
    replace t2 := g6.block t2
    replace t3 := g6.block t3
    replace t4 := g6.block t4
    obtain ⟨A7, h7⟩ : ∃ A, A6.alloc (.cells #[.func (.func 39) #[] #[.pointer (some ⟨yb, 0, none⟩)]] 86) = A := ⟨_, rfl⟩
    have t6 : A7.heap[yb + 1 + 1 + 1 + 1 + 1 + 1]? = some (.cells #[.func (.func 39) #[] #[.pointer (some ⟨yb, 0, none⟩)]] 86 (0, 0)) := by rw [← h7]; exact new_blk _ _ s6
    have s7 : A7.heap.size = yb + 1 + 1 + 1 + 1 + 1 + 1 + 1 := by rw [← h7, World.size_alloc, s6]
    have g7 : Nb A6 A7 := by rw [← h7]; exact alloc_nb _ _
    have m7 := m6.trans g7
    rw [h7]
    clear h7
    replace t0 := g7.block t0
    replace t1 := g7.block t1
    replace t2 := g7.block t2
    replace t3 := g7.block t3
    replace t4 := g7.block t4
    replace t5 := g7.block t5
    have hAB : AtB l (yb) (yb + 1 + 1) (yb + 1) (yb + 1 + 1 + 1) (yb + 1 + 1 + 1 + 1) (yb + 1 + 1 + 1 + 1 + 1) A7 := ⟨t0, t1, t2, t3, t5, t4⟩
    have hH : Hi hi (yb) (yb + 1 + 1) (yb + 1) (yb + 1 + 1 + 1) (yb + 1 + 1 + 1 + 1) (yb + 1 + 1 + 1 + 1 + 1) := ⟨by omega, by omega, by omega, by omega, by omega, by omega⟩
    have hpr : hi ≤ yb + 1 + 1 + 1 + 1 + 1 + 1 := by omega
    have b1 := m7.block hPB
    have hexpr := Lib.hid (expr_any W0 hi l N J Jx hJ hY _ _ hH.y hH.e 65 1 (by omega))
    have hdef := Lib.hid (def_any W0 hi l N J Jx hJ hY _ _ _ _ _ _ hH _ hpr 0 (by omega))
    have g8 : Kp W0.heap.size hi A7 A7.drew := Kp.of_nb (Nat.le_trans hW.size m7.size) ((Nb.refl A7).drewN 1)
    have hnd : Nb W A7.drew := m7.trans ((Nb.refl A7).drewN 1)
    clear hY hJ g1 g2 g3 g4 g5 g6 g7 m0 m1 m2 m3 m4 m5 m6 t2 t3 t5 s1 s2 s3 s4 s5 s6 s7
    refine wp_region_s 1 (by kernel_rfl) ?_
    change wpAnyIn _ _ _ _ _ _ 16 (List.toArray [false, false, false, false, false, false, false, false, false, false, false, false, false, false, false, false]) _ _
    refine stage (m := 13) (fuel := 3) (List.toArray [true, true, true, false, false, false, false, false, false, false, false, false, false, false, false, false]) (fun w' => Kp W0.heap.size hi A7 w') g8 (fun hG => ?_)
    refine takeS (i := 0) (v := .func (.yield l) #[] #[]) rfl (by kernel_rfl) (by kernel_rfl) (by kernel_rfl) (by kernel_rfl) (by kernel_rfl) (fun _ _ _ h => h) (.inl ⟨by rfl, by intro w' hw; have hc := cell_of_row _ _ 0 _ _ _ (hw.block hH.y t0); go_simp⟩) hG ?_
    simp only [Act.put, List.setIfInBounds_toArray, List.set_cons_zero, List.set_cons_succ]
    refine takeS (i := 1) (v := .agg e.cells.toArray) rfl (by kernel_rfl) (by kernel_rfl) (by kernel_rfl) (by kernel_rfl) (by kernel_rfl) (fun _ _ _ h => h) (yields_load' (by rfl) 25 (.tmp 1) rfl _ rfl _ (fun w' hw => run_loadVar_row _ _ _ _ _ _ _ (hw.block hhi b1) (Tryd.underlying25) rfl (by kernel_rfl))) hG ?_
    simp only [Act.put, List.setIfInBounds_toArray, List.set_cons_zero, List.set_cons_succ]
    generalize A7.drew = Wd at hG hnd ⊢
    clear g8
    refine onlyS (i := 2) (by kernel_rfl) rfl (by rfl) (fun K hK => ?_)
    go_simp
    refine ⟨trivial, callsIn_wide.2 ((headP_any W0 e he Wd).mono ?_)⟩
    rintro r w5 ⟨rfl, h5⟩
    replace hG := hG.trans (Kp.of_nb (Nat.le_trans hW.size hnd.size) h5)
    replace hnd := hnd.trans h5
    refine hK.out _ _ hG (fun _ => ?_)
    clear hK K
    simp only [Act.put, List.setIfInBounds_toArray, List.set_cons_zero, List.set_cons_succ]
    refine ⟨rfl, ?_⟩
    obtain ⟨fn, tmps, assign, body, hy, hR⟩ := hyld.out 0 [] (0, hdP e) w5 (hW.trans hnd) (hJh.out _ _ _ h0.out hnd) (by have := hN.out; rw [hFe.out, List.length_cons] at this; simp only [List.length_nil]; omega)
    replace hy : (Instr.yield l #[.int .i64 0, .agg (hdP e).cells]).run Tryd.prog w5 = .ok (.round l fn tmps assign body) w5 := hy
    refine onlyIn (i := 3) (by kernel_rfl) rfl (by rfl) (fun K hK => ?_)
    go_simp
    refine hR.mono ?_
    rintro r w6 (⟨rfl, hj6, hk6⟩ | ⟨rfl, hx6⟩)
    · replace hG := hG.trans hk6
      have hn6 : Nb W0 w6 := (hW.trans hnd).trans' hk6
      refine hK.out _ _ ?_
      clear hK K
      simp only [Act.put, List.setIfInBounds_toArray, List.set_cons_zero, List.set_cons_succ]
      refine stage (m := 8) (fuel := 4) (List.toArray [true, true, true, true, true, true, true, true, false, false, false, false, false, false, false, false]) (fun w' => Kp W0.heap.size hi A7 w') hG (fun hG => ?_)
      refine takeS (i := 4) (v := .bool true) rfl (by kernel_rfl) (by kernel_rfl) (by kernel_rfl) (by kernel_rfl) (by kernel_rfl) (fun _ _ _ h => h) (.inl ⟨by rfl, by intro w' hw; go_simp⟩) hG ?_
      simp only [Act.put, List.setIfInBounds_toArray, List.set_cons_zero, List.set_cons_succ]
      refine takeS (i := 5) (v := .pointer (some ⟨PB, 0, none⟩)) rfl (by kernel_rfl) (by kernel_rfl) (by kernel_rfl) (by kernel_rfl) (by kernel_rfl) (fun _ _ _ h => h) (.inl ⟨by rfl, by intro w' hw; go_simp⟩) hG ?_
      simp only [Act.put, List.setIfInBounds_toArray, List.set_cons_zero, List.set_cons_succ]
      refine takeS (i := 6) (v := e.dv) rfl (by kernel_rfl) (by kernel_rfl) (by kernel_rfl) (by kernel_rfl) (by kernel_rfl) (fun _ _ _ h => h) (.inl ⟨by rfl, by intro w' hw; have hc : w'.cell? ⟨PB, 0, none⟩ = some e.dv := cell_of_row _ _ 0 _ _ _ (hw.block hhi b1); go_simp⟩) hG ?_
      simp only [Act.put, List.setIfInBounds_toArray, List.set_cons_zero, List.set_cons_succ]
      refine takeS (i := 7) (v := .func (.func 41) #[] #[.pointer (some ⟨yb, 0, none⟩), .pointer (some ⟨yb + 1 + 1 + 1 + 1 + 1 + 1, 0, none⟩), .pointer (some ⟨yb + 1 + 1 + 1 + 1, 0, none⟩)]) rfl (by kernel_rfl) (by kernel_rfl) (by kernel_rfl) (by kernel_rfl) (by kernel_rfl) (fun _ _ _ h => h) (.inl ⟨by rfl, by intro w' hw; go_simp⟩) hG ?_
      simp only [Act.put, List.setIfInBounds_toArray, List.set_cons_zero, List.set_cons_succ]
      refine ⟨rfl, ?_⟩
      have hcall := (show Calls Tryd.prog 45 _ w6 (Goes (J := J) (Jx := Jx) W0.heap.size hi ([] ++ [(0, hdP e)]) P1 w6) from by rw [← hP1.out]; exact eachD_any W0 hi N J Jx hJh.out 0 (by omega) (yb) (yb + 1 + 1 + 1 + 1 + 1 + 1) (yb + 1 + 1 + 1 + 1) (fun X => AtB l (yb) (yb + 1 + 1) (yb + 1) (yb + 1 + 1 + 1) (yb + 1 + 1 + 1 + 1) (yb + 1 + 1 + 1 + 1 + 1) X ∧ X.heap[yb + 1 + 1 + 1 + 1 + 1 + 1]? = some (.cells #[.func (.func 39) #[] #[.pointer (some ⟨yb, 0, none⟩)]] 86 (0, 0))) (fun A B k h => ⟨AtB.kp hH k h.1, k.block hpr h.2⟩) flD e.defs (fun x hx => Df.okc (he.prow x hx) (he.body x hx)) (fun x hx pre W hnb hA hj hle => hdef.out x (he.prow x hx) (he.body x hx) pre W hnb hA.1 hA.2 hj hle) e.dv he.drow ([] ++ [(0, hdP e)]) w6 hn6 ⟨AtB.kp hH hG hAB, hG.block hpr t6⟩ hj6 (by rw [hP1.out]; exact (by have := hN.out; rw [hFe.out] at this; simp only [List.length_append, List.length_cons, List.length_nil] at this ⊢; omega)))
      refine onlyIn (i := 8) (by kernel_rfl) rfl (by rfl) (fun K hK => ?_)
      go_simp
      refine ⟨trivial, callsIn_wide.2 (hcall.mono ?_)⟩
      clear hcall
      rintro r w7 (⟨rfl, hj7, hk7⟩ | ⟨rfl, q, hq, hx7⟩)
      · replace hG := hG.trans hk7
        have hn7 : Nb W0 w7 := hn6.trans' hk7
        refine hK.out _ _ ?_
        clear hK K
        simp only [Act.put, List.setIfInBounds_toArray, List.set_cons_zero, List.set_cons_succ]
        refine stage (m := 2) (fuel := 5) (List.toArray [true, true, true, true, true, true, true, true, true, true, true, true, true, true, false, false]) (fun w' => Kp W0.heap.size hi A7 w') hG (fun hG => ?_)
        refine takeS (i := 9) (v := .bool true) rfl (by kernel_rfl) (by kernel_rfl) (by kernel_rfl) (by kernel_rfl) (by kernel_rfl) (fun _ _ _ h => h) (.inl ⟨by rfl, by intro w' hw; go_simp⟩) hG ?_
        simp only [Act.put, List.setIfInBounds_toArray, List.set_cons_zero, List.set_cons_succ]
        refine takeS (i := 10) (v := .bool true) rfl (by kernel_rfl) (by kernel_rfl) (by kernel_rfl) (by kernel_rfl) (by kernel_rfl) (fun _ _ _ h => h) (.inl ⟨by rfl, by intro w' hw; go_simp⟩) hG ?_
        simp only [Act.put, List.setIfInBounds_toArray, List.set_cons_zero, List.set_cons_succ]
        refine takeS (i := 11) (v := .pointer (some ⟨PB, 3, none⟩)) rfl (by kernel_rfl) (by kernel_rfl) (by kernel_rfl) (by kernel_rfl) (by kernel_rfl) (fun _ _ _ h => h) (.inl ⟨by rfl, by intro w' hw; go_simp⟩) hG ?_
        simp only [Act.put, List.setIfInBounds_toArray, List.set_cons_zero, List.set_cons_succ]
        refine takeS (i := 12) (v := e.av) rfl (by kernel_rfl) (by kernel_rfl) (by kernel_rfl) (by kernel_rfl) (by kernel_rfl) (fun _ _ _ h => h) (.inl ⟨by rfl, by intro w' hw; have hc : w'.cell? ⟨PB, 3, none⟩ = some e.av := cell_of_row _ _ 3 _ _ _ (hw.block hhi b1); go_simp⟩) hG ?_
        simp only [Act.put, List.setIfInBounds_toArray, List.set_cons_zero, List.set_cons_succ]
        refine takeS (i := 13) (v := .func (.func 24) #[] #[.pointer (some ⟨yb, 0, none⟩), .pointer (some ⟨yb + 1, 0, none⟩)]) rfl (by kernel_rfl) (by kernel_rfl) (by kernel_rfl) (by kernel_rfl) (by kernel_rfl) (fun _ _ _ h => h) (.inl ⟨by rfl, by intro w' hw; have hc := cell_of_row _ _ 0 _ _ _ (hw.block hH.e t1); go_simp⟩) hG ?_
        simp only [Act.put, List.setIfInBounds_toArray, List.set_cons_zero, List.set_cons_succ]
        refine ⟨rfl, ?_⟩
        have hcall := (show Calls Tryd.prog 26 _ w7 (Goes (J := J) (Jx := Jx) W0.heap.size hi ([] ++ [(0, hdP e)] ++ P1) P2 w7) from by rw [← hP2.out]; exact eachE_any W0 hi N J Jx hJh.out 1 (by omega) (yb) (yb + 1) (AtE l (yb) (yb + 1)) (fun A B k => AtE.kp hH.y hH.e k) (flE hdE 65) e.args (fun x hx => Ex.okc (he.args.kids x hx).exs) (fun x hx pre W hnb hA hj hle => hexpr.out x (he.args.kids x hx) pre W hnb hA hj hle) e.av he.args.row ([] ++ [(0, hdP e)] ++ P1) w7 hn7 ⟨hG.block hH.y t0, hG.block hH.e t1⟩ hj7 (by rw [show ((e.args.map (flE hdE 65)).flatten) = P2 from hP2.out]; exact (by have := hN.out; rw [hFe.out] at this; simp only [List.length_append, List.length_cons, List.length_nil] at this ⊢; omega)))
        refine onlyIn (i := 14) (by kernel_rfl) rfl (by rfl) (fun K hK => ?_)
        go_simp
        refine ⟨trivial, callsIn_wide.2 (hcall.mono ?_)⟩
        clear hcall
        rintro r w8 (⟨rfl, hj8, hk8⟩ | ⟨rfl, q, hq, hx8⟩)
        · refine hK.out _ _ ?_
          clear hK K
          simp only [Act.put, List.setIfInBounds_toArray, List.set_cons_zero, List.set_cons_succ]
          refine stage (m := 0) (fuel := 1) (List.toArray [true, true, true, true, true, true, true, true, true, true, true, true, true, true, true, true]) (fun _ => True) trivial (fun hT => ?_)
          refine takeS (i := 15) (v := .bool true) rfl (by kernel_rfl) (by kernel_rfl) (by kernel_rfl) (by kernel_rfl) (by kernel_rfl) (fun _ _ _ h => h) (.inl ⟨by rfl, by intro w' hw; go_simp⟩) trivial ?_
          simp only [Act.put, List.setIfInBounds_toArray, List.set_cons_zero, List.set_cons_succ]
          refine ⟨rfl, ?_⟩
          refine wpAnyIn_done (by kernel_rfl) ?_ _
          go_wp2_with fail
          go_end0
          exact ⟨⟨_, rfl⟩, .inl (by rw [hFe.out]; simpa [List.append_assoc] using hj8)⟩
        · refine hK.out _ _ ?_
          clear hK K
          simp only [Act.put, List.setIfInBounds_toArray, List.set_cons_zero, List.set_cons_succ]
          refine stage (m := 0) (fuel := 1) (List.toArray [true, true, true, true, true, true, true, true, true, true, true, true, true, true, true, true]) (fun _ => True) trivial (fun hT => ?_)
          refine takeS (i := 15) (v := .bool false) rfl (by kernel_rfl) (by kernel_rfl) (by kernel_rfl) (by kernel_rfl) (by kernel_rfl) (fun _ _ _ h => h) (.inl ⟨by rfl, by intro w' hw; go_simp⟩) trivial ?_
          simp only [Act.put, List.setIfInBounds_toArray, List.set_cons_zero, List.set_cons_succ]
          refine ⟨rfl, ?_⟩
          refine wpAnyIn_done (by kernel_rfl) ?_ _
          go_wp2_with fail
          go_end0
          exact ⟨⟨_, rfl⟩, .inr ⟨(0, hdP e) :: (P1 ++ q), by rw [hFe.out]; obtain ⟨t, ht⟩ := hq; exact ⟨t, by rw [← ht]; simp [List.append_assoc]⟩, by simpa [List.append_assoc] using hx8⟩⟩
      · refine hK.out _ _ ?_
        clear hK K
        simp only [Act.put, List.setIfInBounds_toArray, List.set_cons_zero, List.set_cons_succ]
        refine stage (m := 0) (fuel := 7) (List.toArray [true, true, true, true, true, true, true, true, true, true, true, true, true, true, true, true]) (fun _ => True) trivial (fun hT => ?_)
        refine takeS (i := 9) (v := .bool false) rfl (by kernel_rfl) (by kernel_rfl) (by kernel_rfl) (by kernel_rfl) (by kernel_rfl) (fun _ _ _ h => h) (.inl ⟨by rfl, by intro w' hw; go_simp⟩) trivial ?_
        simp only [Act.put, List.setIfInBounds_toArray, List.set_cons_zero, List.set_cons_succ]
        refine takeS (i := 10) (v := .bool false) rfl (by kernel_rfl) (by kernel_rfl) (by kernel_rfl) (by kernel_rfl) (by kernel_rfl) (fun _ _ _ h => h) (.inl ⟨by rfl, by intro w' hw; go_simp⟩) trivial ?_
        simp only [Act.put, List.setIfInBounds_toArray, List.set_cons_zero, List.set_cons_succ]
        refine takeS (i := 11) (v := undef) rfl (by kernel_rfl) (by kernel_rfl) (by kernel_rfl) (by kernel_rfl) (by kernel_rfl) (fun _ _ _ h => h) (.inr ⟨by rfl, rfl⟩) trivial ?_
        simp only [Act.put, List.setIfInBounds_toArray, List.set_cons_zero, List.set_cons_succ]
        refine takeS (i := 12) (v := undef) rfl (by kernel_rfl) (by kernel_rfl) (by kernel_rfl) (by kernel_rfl) (by kernel_rfl) (fun _ _ _ h => h) (.inr ⟨by rfl, rfl⟩) trivial ?_
        simp only [Act.put, List.setIfInBounds_toArray, List.set_cons_zero, List.set_cons_succ]
        refine takeS (i := 13) (v := undef) rfl (by kernel_rfl) (by kernel_rfl) (by kernel_rfl) (by kernel_rfl) (by kernel_rfl) (fun _ _ _ h => h) (.inr ⟨by rfl, rfl⟩) trivial ?_
        simp only [Act.put, List.setIfInBounds_toArray, List.set_cons_zero, List.set_cons_succ]
        refine takeS (i := 14) (v := undef) rfl (by kernel_rfl) (by kernel_rfl) (by kernel_rfl) (by kernel_rfl) (by kernel_rfl) (fun _ _ _ h => h) (.inr ⟨by rfl, rfl⟩) trivial ?_
        simp only [Act.put, List.setIfInBounds_toArray, List.set_cons_zero, List.set_cons_succ]
        refine takeS (i := 15) (v := .bool false) rfl (by kernel_rfl) (by kernel_rfl) (by kernel_rfl) (by kernel_rfl) (by kernel_rfl) (fun _ _ _ h => h) (.inl ⟨by rfl, by intro w' hw; go_simp⟩) trivial ?_
        simp only [Act.put, List.setIfInBounds_toArray, List.set_cons_zero, List.set_cons_succ]
        refine ⟨rfl, ?_⟩
        refine wpAnyIn_done (by kernel_rfl) ?_ _
        go_wp2_with fail
        go_end0
        exact ⟨⟨_, rfl⟩, .inr ⟨(0, hdP e) :: q, by rw [hFe.out]; obtain ⟨t, ht⟩ := hq; exact ⟨t ++ P2, by rw [← ht]; simp [List.append_assoc]⟩, by simpa [List.append_assoc] using hx7⟩⟩
    · refine hK.out _ _ ?_
      clear hK K
      simp only [Act.put, List.setIfInBounds_toArray, List.set_cons_zero, List.set_cons_succ]
      refine stage (m := 0) (fuel := 12) (List.toArray [true, true, true, true, true, true, true, true, true, true, true, true, true, true, true, true]) (fun _ => True) trivial (fun hT => ?_)
      refine takeS (i := 4) (v := .bool false) rfl (by kernel_rfl) (by kernel_rfl) (by kernel_rfl) (by kernel_rfl) (by kernel_rfl) (fun _ _ _ h => h) (.inl ⟨by rfl, by intro w' hw; go_simp⟩) trivial ?_
      simp only [Act.put, List.setIfInBounds_toArray, List.set_cons_zero, List.set_cons_succ]
      refine takeS (i := 5) (v := undef) rfl (by kernel_rfl) (by kernel_rfl) (by kernel_rfl) (by kernel_rfl) (by kernel_rfl) (fun _ _ _ h => h) (.inr ⟨by rfl, rfl⟩) trivial ?_
      simp only [Act.put, List.setIfInBounds_toArray, List.set_cons_zero, List.set_cons_succ]
      refine takeS (i := 6) (v := undef) rfl (by kernel_rfl) (by kernel_rfl) (by kernel_rfl) (by kernel_rfl) (by kernel_rfl) (fun _ _ _ h => h) (.inr ⟨by rfl, rfl⟩) trivial ?_
      simp only [Act.put, List.setIfInBounds_toArray, List.set_cons_zero, List.set_cons_succ]
      refine takeS (i := 7) (v := undef) rfl (by kernel_rfl) (by kernel_rfl) (by kernel_rfl) (by kernel_rfl) (by kernel_rfl) (fun _ _ _ h => h) (.inr ⟨by rfl, rfl⟩) trivial ?_
      simp only [Act.put, List.setIfInBounds_toArray, List.set_cons_zero, List.set_cons_succ]
      refine takeS (i := 8) (v := undef) rfl (by kernel_rfl) (by kernel_rfl) (by kernel_rfl) (by kernel_rfl) (by kernel_rfl) (fun _ _ _ h => h) (.inr ⟨by rfl, rfl⟩) trivial ?_
      simp only [Act.put, List.setIfInBounds_toArray, List.set_cons_zero, List.set_cons_succ]
      refine takeS (i := 9) (v := .bool false) rfl (by kernel_rfl) (by kernel_rfl) (by kernel_rfl) (by kernel_rfl) (by kernel_rfl) (fun _ _ _ h => h) (.inl ⟨by rfl, by intro w' hw; go_simp⟩) trivial ?_
      simp only [Act.put, List.setIfInBounds_toArray, List.set_cons_zero, List.set_cons_succ]
      refine takeS (i := 10) (v := .bool false) rfl (by kernel_rfl) (by kernel_rfl) (by kernel_rfl) (by kernel_rfl) (by kernel_rfl) (fun _ _ _ h => h) (.inl ⟨by rfl, by intro w' hw; go_simp⟩) trivial ?_
      simp only [Act.put, List.setIfInBounds_toArray, List.set_cons_zero, List.set_cons_succ]
      refine takeS (i := 11) (v := undef) rfl (by kernel_rfl) (by kernel_rfl) (by kernel_rfl) (by kernel_rfl) (by kernel_rfl) (fun _ _ _ h => h) (.inr ⟨by rfl, rfl⟩) trivial ?_
      simp only [Act.put, List.setIfInBounds_toArray, List.set_cons_zero, List.set_cons_succ]
      refine takeS (i := 12) (v := undef) rfl (by kernel_rfl) (by kernel_rfl) (by kernel_rfl) (by kernel_rfl) (by kernel_rfl) (fun _ _ _ h => h) (.inr ⟨by rfl, rfl⟩) trivial ?_
      simp only [Act.put, List.setIfInBounds_toArray, List.set_cons_zero, List.set_cons_succ]
      refine takeS (i := 13) (v := undef) rfl (by kernel_rfl) (by kernel_rfl) (by kernel_rfl) (by kernel_rfl) (by kernel_rfl) (fun _ _ _ h => h) (.inr ⟨by rfl, rfl⟩) trivial ?_
      simp only [Act.put, List.setIfInBounds_toArray, List.set_cons_zero, List.set_cons_succ]
      refine takeS (i := 14) (v := undef) rfl (by kernel_rfl) (by kernel_rfl) (by kernel_rfl) (by kernel_rfl) (by kernel_rfl) (fun _ _ _ h => h) (.inr ⟨by rfl, rfl⟩) trivial ?_
      simp only [Act.put, List.setIfInBounds_toArray, List.set_cons_zero, List.set_cons_succ]
      refine takeS (i := 15) (v := .bool false) rfl (by kernel_rfl) (by kernel_rfl) (by kernel_rfl) (by kernel_rfl) (by kernel_rfl) (fun _ _ _ h => h) (.inl ⟨by rfl, by intro w' hw; go_simp⟩) trivial ?_
      simp only [Act.put, List.setIfInBounds_toArray, List.set_cons_zero, List.set_cons_succ]
      refine ⟨rfl, ?_⟩
      refine wpAnyIn_done (by kernel_rfl) ?_ _
      go_wp2_with fail
      go_end0
      exact ⟨⟨_, rfl⟩, .inr ⟨[(0, hdP e)], by rw [hFe.out]; exact ⟨_, rfl⟩, hx6⟩⟩
end Go.Proofs.YtojogolmcclpoaaDoor
