/-
  Proved here: the reference's value of a word, where its tuple's is known. Conditions: none.
-/
import Derived.Test.YtmoggaecnjcjfaaXe
import Derived.Test.YtmoggaecnjcjfaaVg
namespace Go.Proofs.Ytmoggaecnjcjfaa
open Go.RowKit Go.ChangeMaps
set_option linter.unusedVariables false
set_option linter.unusedSimpArgs false
set_option maxRecDepth 100000
set_option maxHeartbeats 4000000
def decT (xs : List Int) (bs : Int) : Nat → Int → Nat → Nat × Rs
  | 0 => fun _ met => (met, .bad 150)
  | k + 1 => fun a met => match partsR xs bs a with
    | none => (met, .bad 151)
    | some ps => decL (decV xs bs k) ps met []
theorem decV_eq (xs : List Int) (bs : Int) (k : Nat) (w : Int) (met : Nat) : decV xs bs k w met = if 4096 < met + 1 then (met + 1, .bad 150) else if w % 4 ≠ 1 then (met + 1, leafR w) else decT xs bs k (w - 1) (met + 1) := by
  cases k <;> rfl
/-- The reference's box of what decodes. -/
structure RdAt (W0 : World) (rd : Nat) (sv : Value) (bs : Int) (w : World) (met : Nat) : Prop where
  nb : Nb W0 w
  box : w.heap[rd]? = some (.cells #[sv, .int .u64 bs, .int .i64 (met : Int)] 66 (0, 0))
  hm : W0.heap.size ≤ rd
theorem RdAt.gb {W0 w w' : World} {rd : Nat} {sv : Value} {bs : Int} {met met' : Nat} (h : RdAt W0 rd sv bs w met) (g : Gb rd w w') (hm : w'.heap[rd]? = some (.cells #[sv, .int .u64 bs, .int .i64 (met' : Int)] 66 (0, 0))) : RdAt W0 rd sv bs w' met' := ⟨g.nb h.nb h.hm, hm, h.hm⟩
theorem RdAt.go {W0 w w' : World} {rd : Nat} {sv : Value} {bs : Int} {met : Nat} (h : RdAt W0 rd sv bs w met) (k : Nb w w') : RdAt W0 rd sv bs w' met := h.gb (Gb.of_nb k) (k.block h.box)
/-- What has come of a word, the reference's. -/
def RAns (R : Nat × Rs) (rd : Nat) (sv : Value) (bs : Int) (w : World) (r : Ending) (w' : World) : Prop :=
  Gb rd w w' ∧ w'.heap[rd]? = some (.cells #[sv, .int .u64 bs, .int .i64 (R.1 : Int)] 66 (0, 0)) ∧ match R.2 with
    | .bad e => e ≠ 0 ∧ r = .returned (.tuple #[.agg #[.int .i64 0, .int .i64 0, .slice none 0 0], .int .i64 e])
    | .good p => ∃ v : Vl, r = .returned (.tuple #[.agg v.cells.toArray, .int .i64 0]) ∧ v.sh = p ∧ v.Has w' ∧ v.Frv w.heap.size w'
theorem RAns.back {R : Nat × Rs} {rd : Nat} {sv : Value} {bs : Int} {w0 w : World} {r : Ending} {w' : World} (h : RAns R rd sv bs w r w') (g : Gb rd w0 w) : RAns R rd sv bs w0 r w' := by
  obtain ⟨a, b, c⟩ := h
  refine ⟨g.trans a, b, ?_⟩
  cases hR : R.2 with
  | bad e => rw [hR] at c; exact c
  | good p =>
    rw [hR] at c
    obtain ⟨v, h1, h2, h3, h4⟩ := c
    exact ⟨v, h1, h2, h3, h4.mono g.size⟩
theorem RAns.open {m : Nat} {pq : Pv} {rd : Nat} {sv : Value} {bs : Int} {w : World} {r : Ending} {w' : World} (h : RAns (m, .good pq) rd sv bs w r w') : ∃ (kd nn : Int) (A' : Option Addr) (L' c' : Nat) (l : List Vl), r = .returned (.tuple #[.agg #[.int .i64 kd, .int .i64 nn, .slice A' L' c'], .int .i64 0]) ∧ Gb rd w w' ∧ w'.heap[rd]? = some (.cells #[sv, .int .u64 bs, .int .i64 (m : Int)] 66 (0, 0)) ∧ Hid ((Vl.mk kd nn (.slice A' L' c') l).sh = pq ∧ (Vl.mk kd nn (.slice A' L' c') l).Has w' ∧ (Vl.mk kd nn (.slice A' L' c') l).Frv w.heap.size w') := by
  obtain ⟨ha, hb, v, hc, hd, he, hf⟩ := h
  obtain ⟨A', c', hav, -, -, -⟩ := he.vls.head
  cases v with
  | mk kd nn av l =>
    simp only [Vl.av, Vl.args] at hav
    subst hav
    exact ⟨kd, nn, A', _, c', l, hc, ha, hb, Lib.hid ⟨hd, he, hf⟩⟩
/-- A leaf, laid in the answer's box. -/
theorem RAns.leaf {m : Nat} {kk nn : Int} {rd S : Nat} {sv : Value} {bs : Int} {w W : World} (g : Gb rd w W) (b : W.heap[rd]? = some (.cells #[sv, .int .u64 bs, .int .i64 (m : Int)] 66 (0, 0))) (hS : w.heap.size ≤ S) (hr : rd ≠ S) (hn : -9223372036854775808 ≤ nn ∧ nn < 9223372036854775808) (x y z : Value) {r : Ending} (he : r = .returned (.tuple #[.agg #[.int .i64 kk, .int .i64 nn, .slice none 0 0], .int .i64 0])) :
    RAns (m, .good (.mk kk nn [])) rd sv bs w r (((W.setCell ⟨S, 0, none⟩ x).setCell ⟨S, 1, none⟩ y).setCell ⟨S, 2, none⟩ z) :=
  ⟨((g.far hS _ _).far hS _ _).far hS _ _, by rw [heap_setCell_other _ _ _ _ hr, heap_setCell_other _ _ _ _ hr, heap_setCell_other _ _ _ _ hr]; exact b, Vl.mk kk nn (.slice none 0 0) [], he, rfl, leaf_has _ _ hn, .mk (fun b o L c he => by simp [Vl.av] at he) (fun x hx => by simp [Vl.args] at hx)⟩
theorem RAns.no {m : Nat} {e : Int} {rd S : Nat} {sv : Value} {bs : Int} {w W : World} (g : Gb rd w W) (b : W.heap[rd]? = some (.cells #[sv, .int .u64 bs, .int .i64 (m : Int)] 66 (0, 0))) (hS : w.heap.size ≤ S) (hr : rd ≠ S) (hn : e ≠ 0) (x y z : Value) {r : Ending} (he : r = .returned (.tuple #[.agg #[.int .i64 0, .int .i64 0, .slice none 0 0], .int .i64 e])) :
    RAns (m, .bad e) rd sv bs w r (((W.setCell ⟨S, 0, none⟩ x).setCell ⟨S, 1, none⟩ y).setCell ⟨S, 2, none⟩ z) :=
  ⟨((g.far hS _ _).far hS _ _).far hS _ _, by rw [heap_setCell_other _ _ _ _ hr, heap_setCell_other _ _ _ _ hr, heap_setCell_other _ _ _ _ hr]; exact b, hn, he⟩
theorem sgn_wrap (u : Int) (h0 : 0 ≤ u) (h1 : u < 18446744073709551616) : wrap64 (Sgn (u / 4) 62) = wrap64 u / 4 := by
  rw [← sgn_yes _ _ (by decide) (by decide)]
  rw [show (2 ^ ((62 : Int).toNat - 1) : Nat) = 2305843009213693952 by decide]
  obtain ⟨n, rfl⟩ : ∃ n : Nat, u = (n : Int) := ⟨u.toNat, by omega⟩
  rw [show (n : Int) / 4 = ((n / 4 : Nat) : Int) by omega, Int.toNat_natCast]
  unfold sgh wrap64
  split <;> omega
theorem rval_of (W0 : World) (rd : Nat) (sv : Value) (xs : List Int) (bs : Int) (left : Nat) (wd : Int) (hd0 : 0 ≤ wd) (hd1 : wd < 18446744073709551616) (met : Nat) (hmet : met ≤ 4096) (w : World) (hw : RdAt W0 rd sv bs w met)
    (ht : wd % 4 = 1 → met + 1 ≤ 4096 → ∀ w', RdAt W0 rd sv bs w' (met + 1) → Calls Try.prog 49 #[.pointer (some ⟨rd, 0, none⟩), .int .u64 (wd - 1), .int .i64 (left : Int)] w' (RAns (decT xs bs left (wd - 1) (met + 1)) rd sv bs w')) :
    Calls Try.prog 41 #[.pointer (some ⟨rd, 0, none⟩), .int .u64 wd, .int .i64 (left : Int)] w (RAns (decV xs bs left wd met) rd sv bs w) := by
  obtain ⟨R, hR⟩ : ∃ R, decV xs bs left wd met = R := ⟨_, rfl⟩
  rw [hR]
  rw [decV_eq] at hR
  obtain ⟨T, hT⟩ : ∃ T, decT xs bs left (wd - 1) (met + 1) = T := ⟨_, rfl⟩
  rw [hT] at ht hR
  clear hT
  have rg1 : wd / 4 < 4611686018427387904 := by omega
  have rg0 : 0 ≤ wd / 4 := by omega
  have w4 : wrap64 (wd / 4) = wd / 4 := by unfold wrap64; omega
  go_enter Try.func41, Try.ntmps41
  go_upto_region 1 with (fail)
  obtain ⟨W1, hW⟩ : ∃ W1, w.alloc (Obj.cells #[.int .i64 0, .int .i64 0, .slice none 0 0] 24) = W1 := ⟨_, rfl⟩
  have n1 : Nb w W1 := by rw [← hW]; exact (Nb.refl w).alloc _
  have bS : W1.heap[w.heap.size]? = some (.cells #[.int .i64 0, .int .i64 0, .slice none 0 0] 24 (0, 0)) := by rw [← hW]; exact new_blk w _ rfl
  rw [hW]
  clear hW
  have h1 := hw.go n1
  have hmw := lt_blk hw.box
  obtain ⟨S, hS⟩ : ∃ S, w.heap.size = S := ⟨_, rfl⟩
  have hSw : w.heap.size ≤ S := by omega
  have hmS : rd ≠ S := by omega
  rw [hS] at bS ⊢
  clear hS hw hmw
  have m0 := cell_of_row _ _ 2 _ _ _ h1.box
  have mf := frozen_blk h1.box 2
  go_upto_region 2 with (fail)
  obtain ⟨W2, hW2⟩ : ∃ W2, W1.setCell ⟨rd, 2, none⟩ (.int .i64 ((met : Int) + 1)) = W2 := ⟨_, rfl⟩
  have g2 : Gb rd W1 W2 := by rw [← hW2]; exact (Gb.refl rd W1).set 2 _
  have bM2 : W2.heap[rd]? = some (.cells #[sv, .int .u64 bs, .int .i64 ((met + 1 : Nat) : Int)] 66 (0, 0)) := by rw [← hW2, show ((met + 1 : Nat) : Int) = (met : Int) + 1 by omega]; exact heap_setCell_same _ _ _ _ _ _ h1.box
  have h2 := h1.gb g2 bM2
  replace bS := g2.block bS (Ne.symm hmS)
  rw [hW2]
  clear hW2 m0 mf h1
  obtain ⟨M, hM⟩ : ∃ M, met + 1 = M := ⟨_, rfl⟩
  rw [hM] at h2 bM2 ht hR
  have hM1 : M ≤ 4097 := by omega
  have gw : Gb rd w W2 := (Gb.of_nb n1).trans g2
  clear g2 n1 hM
  have m0 := cell_of_row _ _ 2 _ _ _ h2.box
  have c0 := cell_of_row _ _ 0 _ _ _ bS
  have c1 := cell_of_row _ _ 1 _ _ _ bS
  have c2 := cell_of_row _ _ 2 _ _ _ bS
  have f0 := frozen_blk bS 0
  have f1 := frozen_blk bS 1
  have f2 := frozen_blk bS 2
  have hS2 := lt_blk bS
  by_cases hgt : 4096 < M
  · rw [if_pos hgt] at hR
    subst hR
    have hgi : (4096 : Int) < (M : Int) := by omega
    clear hgt ht
    go_wp2_with fail
    refine bodyPost_ret (results_rt rfl _ _ S _ rfl (run_loadVar_row _ _ _ _ _ _ _ (set3_all' bS) Try.underlying24 rfl (by kernel_rfl))) rfl ?_
    exact .no gw bM2 hSw hmS (by decide) _ _ _ rfl
  rw [if_neg hgt] at hR
  have hgi : ¬ (4096 : Int) < (M : Int) := by omega
  clear hgt
  by_cases t1 : wd % 4 = 1
  · rw [if_neg (fun h => h t1)] at hR
    subst hR
    have hw1 : 1 ≤ wd := by omega
    have hc := ht t1 (by omega) W2 h2
    obtain ⟨m, rs⟩ := T
    cases rs with
    | bad e =>
      replace hc : Hid (Calls Try.prog 49 #[.pointer (some ⟨rd, 0, none⟩), .int .u64 (wd - 1), .int .i64 (left : Int)] W2 (fun r w' => r = .returned (.tuple #[.agg #[.int .i64 0, .int .i64 0, .slice none 0 0], .int .i64 e]) ∧ Gb rd W2 w' ∧ e ≠ 0 ∧ w'.heap[rd]? = some (.cells #[sv, .int .u64 bs, .int .i64 (m : Int)] 66 (0, 0)))) := Lib.hid (hc.mono fun r w' h => ⟨h.2.2.2, h.1, h.2.2.1, h.2.1⟩)
      clear c0 c1 c2 f0 f1 f2 ht
      go_wp2_with (go_at_call 49; refine (hc.out).mono ?_; rintro r w6 ⟨rfl, g6, he, b6⟩; have bS := g6.block bS (Ne.symm hmS); have c0 := cell_of_row _ _ 0 _ _ _ bS; have c1 := cell_of_row _ _ 1 _ _ _ bS; have c2 := cell_of_row _ _ 2 _ _ _ bS; have f0 := frozen_blk bS 0; have f1 := frozen_blk bS 1; have f2 := frozen_blk bS 2)
      refine bodyPost_ret (results_rt rfl _ _ S _ rfl (run_loadVar_row _ _ _ _ _ _ _ (set3_all' bS) Try.underlying24 rfl (by kernel_rfl))) rfl ?_
      exact .no (gw.trans g6) b6 hSw hmS he _ _ _ rfl
    | good pq =>
      replace hc := Lib.hid (hc.mono fun r w' h => RAns.open h)
      clear c0 c1 c2 f0 f1 f2 ht
      go_wp2_with (go_at_call 49; refine (hc.out).mono ?_; rintro r w6 ⟨kd, nn, A', L', c', l, rfl, g6, b6, hv6⟩; have bS := g6.block bS (Ne.symm hmS); have c0 := cell_of_row _ _ 0 _ _ _ bS; have c1 := cell_of_row _ _ 1 _ _ _ bS; have c2 := cell_of_row _ _ 2 _ _ _ bS; have f0 := frozen_blk bS 0; have f1 := frozen_blk bS 1; have f2 := frozen_blk bS 2)
      refine bodyPost_ret (results_rt rfl _ _ S _ rfl (run_loadVar_row _ _ _ _ _ _ _ (set3_all' bS) Try.underlying24 rfl (by kernel_rfl))) rfl ?_
      have g3 := gw.trans g6
      have hS2 : S < W2.heap.size := by assumption
      obtain ⟨h1, h2, h3⟩ := hv6.out
      obtain ⟨p1, q1⟩ := keeps_set ⟨S, 0, none⟩ hS2 (.int .i64 kd) h2 h3
      obtain ⟨p1, q1⟩ := keeps_set ⟨S, 1, none⟩ hS2 (.int .i64 nn) p1 q1
      obtain ⟨p1, q1⟩ := keeps_set ⟨S, 2, none⟩ hS2 (.slice A' L' c') p1 q1
      exact ⟨((g3.far hSw _ _).far hSw _ _).far hSw _ _, by rw [heap_setCell_other _ _ _ _ hmS, heap_setCell_other _ _ _ _ hmS, heap_setCell_other _ _ _ _ hmS]; exact b6, Vl.mk kd nn (.slice A' L' c') l, rfl, h1, p1, q1.mono gw.size⟩
  rw [if_pos t1] at hR
  clear ht
  by_cases t0 : wd % 4 = 0
  · have hl : leafR wd = .good (.mk 1 (wrap64 wd / 4) []) := by unfold leafR; rw [if_pos t0]
    have hsw := sgn_wrap wd hd0 hd1
    have hr : -9223372036854775808 ≤ wrap64 wd / 4 ∧ wrap64 wd / 4 < 9223372036854775808 := by unfold wrap64; omega
    obtain ⟨nn, hnn⟩ : ∃ n, wrap64 wd / 4 = n := ⟨_, rfl⟩
    rw [hnn] at hsw hr hl
    rw [hl] at hR
    subst hR
    replace hr := Lib.hid hr
    have hs : Hid (∀ W, Calls Try.prog 42 #[.int .u64 (wd / 4), .int .i64 62] W fun e w' => e = .returned (.int .u64 (Sgn (wd / 4) 62)) ∧ W = w') := Lib.hid (fun W => rsign_any _ _ rg0 (by omega) W)
    clear hl hnn t1
    go_wp2_with (go_at_call 42; refine (hs.out _).mono ?_; rintro r w2 ⟨rfl, rfl⟩)
    refine bodyPost_ret (results_rt rfl _ _ S _ rfl (run_loadVar_row _ _ _ _ _ _ _ (set3_all' bS) Try.underlying24 rfl (by kernel_rfl))) rfl ?_
    exact .leaf gw bM2 hSw hmS hr.out _ _ _ rfl
  · by_cases hbig : 1048575 < wd / 4
    · have hl : leafR wd = .bad 151 := by unfold leafR; rw [if_neg t0, if_pos hbig]
      rw [hl] at hR
      subst hR
      have hb2 : 1048576 ≤ wd / 4 := by omega
      clear hl hbig
      by_cases t2 : wd % 4 = 2
      · clear t0 t1
        go_wp2_with fail
        refine bodyPost_ret (results_rt rfl _ _ S _ rfl (run_loadVar_row _ _ _ _ _ _ _ (set3_all' bS) Try.underlying24 rfl (by kernel_rfl))) rfl ?_
        exact .no gw bM2 hSw hmS (by decide) _ _ _ rfl
      · have t3 : wd % 4 = 3 := by omega
        clear t0 t1 t2
        go_wp2_with fail
        refine bodyPost_ret (results_rt rfl _ _ S _ rfl (run_loadVar_row _ _ _ _ _ _ _ (set3_all' bS) Try.underlying24 rfl (by kernel_rfl))) rfl ?_
        exact .no gw bM2 hSw hmS (by decide) _ _ _ rfl
    · have hl : leafR wd = .good (.mk (if wd % 4 = 3 then 3 else 2) (wd / 4) []) := by unfold leafR; rw [if_neg t0, if_neg hbig]
      rw [hl] at hR
      have hb2 : ¬ 1048576 ≤ wd / 4 := by omega
      clear hl hbig
      by_cases t2 : wd % 4 = 2
      · rw [if_neg (by omega)] at hR
        subst hR
        clear t0 t1
        go_wp2_with fail
        refine bodyPost_ret (results_rt rfl _ _ S _ rfl (run_loadVar_row _ _ _ _ _ _ _ (set3_all' bS) Try.underlying24 rfl (by kernel_rfl))) rfl ?_
        exact .leaf gw bM2 hSw hmS (by omega) _ _ _ rfl
      · have t3 : wd % 4 = 3 := by omega
        rw [if_pos t3] at hR
        subst hR
        clear t0 t1 t2
        go_wp2_with fail
        refine bodyPost_ret (results_rt rfl _ _ S _ rfl (run_loadVar_row _ _ _ _ _ _ _ (set3_all' bS) Try.underlying24 rfl (by kernel_rfl))) rfl ?_
        exact .leaf gw bM2 hSw hmS (by omega) _ _ _ rfl
end Go.Proofs.Ytmoggaecnjcjfaa
