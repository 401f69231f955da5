/-
  Proved here: what decodes a word, the code's. Conditions: the memory holds the words; they are words.
-/
import Derived.Test.YtmoggaecnjcjfaaXc
import Derived.Test.YtmoggaecnjcjfaaVl
namespace Go.Proofs.Ytmoggaecnjcjfaa
open Go.RowKit Go.ChangeMaps
set_option linter.unusedVariables false
set_option linter.unusedSimpArgs false
set_option maxRecDepth 100000
set_option maxHeartbeats 4000000
theorem infoA : (Try.prog.info? 24).map (fun i => (i.zero, i.size, i.bytes)) = some (some (.agg #[.int .i64 0, .int .i64 0, .slice none 0 0]), 3, 40) := by kernel_rfl
theorem partsA : ∃ i, Try.prog.info? 24 = some i ∧ i.zero = some (.agg #[.int .i64 0, .int .i64 0, .slice none 0 0]) ∧ i.size = 3 ∧ i.bytes = 40 := by
  have h := infoA
  cases hq : Try.prog.info? 24 with
  | none => rw [hq] at h; cases h
  | some i =>
    rw [hq] at h
    simp only [Option.map_some, Option.some.injEq, Prod.mk.injEq] at h
    exact ⟨i, rfl, h.1, h.2.1, h.2.2⟩
theorem decode_any (W0 : World) (mt wb bb rb : Nat) (sv : Value) (xs : List Int) (bs : Int) (hv : WdsR W0 sv xs) (hx : ∀ x ∈ xs, 0 ≤ x ∧ x < 18446744073709551616) (hl : xs.length ≤ 500) (hb0 : 0 ≤ bs) (hb1 : bs < 18446744073709551616) :
    ∀ (left ar : Nat), ar + left = 64 → ∀ (wd : Int), 0 ≤ wd → wd < 18446744073709551616 → ∀ (met : Nat), met ≤ 4096 → ∀ w, DcAt W0 mt wb bb rb sv bs w met →
    Calls Try.prog 38 #[.int .u64 wd, .int .i64 (ar : Int), .pointer (some ⟨mt, 0, none⟩), .pointer (some ⟨wb, 0, none⟩), .pointer (some ⟨bb, 0, none⟩), .pointer (some ⟨rb, 0, none⟩)] w (DAns left (decV xs bs left wd met) mt w) := by
  intro left
  induction left with
  | zero =>
    intro ar har wd hd0 hd1 met hmet w hw
    obtain ⟨R, hR⟩ : ∃ R, decV xs bs 0 wd met = R := ⟨_, rfl⟩
    rw [hR]
    unfold decV at hR
    have har2 : (ar : Int) = 64 := by omega
    rw [har2]
    have hand := and_three wd hd0 hd1
    go_enter Try.func38, Try.ntmps38
    go_upto_region 1 with (fail)
    obtain ⟨W1, hW⟩ : ∃ W1, w.alloc (Obj.cells #[.int .i64 0, .int .i64 0, .slice none 0 0] 24) = W1 := ⟨_, rfl⟩
    have n1 : Nb w W1 := by rw [← hW]; exact (Nb.refl w).alloc _
    have bS : W1.heap[w.heap.size]? = some (.cells #[.int .i64 0, .int .i64 0, .slice none 0 0] 24 (0, 0)) := by rw [← hW]; exact new_blk w _ rfl
    rw [hW]
    clear hW
    have h1 := hw.go n1
    have hmw := lt_blk hw.mbox
    obtain ⟨S, hS⟩ : ∃ S, w.heap.size = S := ⟨_, rfl⟩
    have hSw : w.heap.size ≤ S := by omega
    have hmS : mt ≠ S := by omega
    rw [hS] at bS ⊢
    clear hS hw hmw
    have m0 := cell_of_row _ _ 0 _ _ _ h1.mbox
    have mf := frozen_blk h1.mbox 0
    go_upto_region 2 with (fail)
    obtain ⟨W2, hW2⟩ : ∃ W2, W1.setCell ⟨mt, 0, none⟩ (.int .i64 ((met : Int) + 1)) = W2 := ⟨_, rfl⟩
    have g2 : Gb mt W1 W2 := by rw [← hW2]; exact (Gb.refl mt W1).set 0 _
    have bM2 : W2.heap[mt]? = some (.cells #[.int .i64 ((met + 1 : Nat) : Int)] 3 (0, 0)) := by rw [← hW2, show ((met + 1 : Nat) : Int) = (met : Int) + 1 by omega]; exact heap_setCell_same _ _ _ _ _ _ h1.mbox
    have h2 := h1.gb g2 bM2
    replace bS := g2.block bS (Ne.symm hmS)
    rw [hW2]
    clear hW2 m0 mf h1
    obtain ⟨M, hM⟩ : ∃ M, met + 1 = M := ⟨_, rfl⟩
    rw [hM] at h2 bM2 hR
    have hM1 : M ≤ 4097 := by omega
    have gw : Gb mt w W2 := (Gb.of_nb n1).trans g2
    clear g2 n1 hM
    have m0 := cell_of_row _ _ 0 _ _ _ h2.mbox
    have c0 := cell_of_row _ _ 0 _ _ _ bS
    have c1 := cell_of_row _ _ 1 _ _ _ bS
    have c2 := cell_of_row _ _ 2 _ _ _ bS
    have f0 := frozen_blk bS 0
    have f1 := frozen_blk bS 1
    have f2 := frozen_blk bS 2
    by_cases hgt : 4096 < M
    · rw [if_pos hgt] at hR
      subst hR
      have hgi : (4096 : Int) < (M : Int) := by omega
      clear hgt
      go_wp2_with fail
      refine bodyPost_ret (results_rt rfl _ _ S _ rfl (run_loadVar_row _ _ _ _ _ _ _ (set3_all' bS) Try.underlying24 rfl (by kernel_rfl))) rfl ?_
      exact ⟨((gw.far hSw _ _).far hSw _ _).far hSw _ _, by rw [heap_setCell_other _ _ _ _ hmS, heap_setCell_other _ _ _ _ hmS, heap_setCell_other _ _ _ _ hmS]; exact bM2, by decide, rfl⟩
    · rw [if_neg hgt] at hR
      have hgi : ¬ (4096 : Int) < (M : Int) := by omega
      by_cases ht : wd % 4 = 1
      · rw [if_neg (fun h => h ht)] at hR
        rw [ht] at hand
        subst hR
        go_wp2_with fail
        refine bodyPost_ret (results_rt rfl _ _ S _ rfl (run_loadVar_row _ _ _ _ _ _ _ (set3_all' bS) Try.underlying24 rfl (by kernel_rfl))) rfl ?_
        exact ⟨((gw.far hSw _ _).far hSw _ _).far hSw _ _, by rw [heap_setCell_other _ _ _ _ hmS, heap_setCell_other _ _ _ _ hmS, heap_setCell_other _ _ _ _ hmS]; exact bM2, by decide, rfl⟩
      · rw [if_pos ht] at hR
        have hand2 : (wd % 4 == 1) = false := by simpa using ht
        have hand3 : (wd % 4 != 1) = true := by simpa using ht
        have hvo := Lib.hid (fun W => valueOf_any wd hd0 hd1 ht W)
        have hmM := Lib.hid (leaf_may wd hd0 hd1)
        obtain ⟨T, hT⟩ : ∃ T, leafR wd = T := ⟨_, rfl⟩
        rw [hT] at hvo hR
        replace hT := Lib.hid hT
        cases T with
        | bad e =>
          subst hR
          have he : e ≠ 0 := by
            have := hT.out
            unfold leafR at this
            split at this
            · cases this
            · split at this
              · simp only [Rs.bad.injEq] at this; omega
              · cases this
          replace hvo : Hid (∀ W, Calls Try.prog 39 #[.int .u64 wd] W (fun r w' => r = .returned (.tuple #[.agg #[.int .i64 0, .int .i64 0, .slice none 0 0], .int .i64 e]) ∧ Nb W w')) := hvo
          replace he := Lib.hid he
          go_wp2_with (go_at_call 39; refine (hvo.out _).mono ?_; rintro r w3 ⟨rfl, n3⟩; have b3 := n3.block bS; have d0 := cell_of_row _ _ 0 _ _ _ b3; have d1 := cell_of_row _ _ 1 _ _ _ b3; have d2 := cell_of_row _ _ 2 _ _ _ b3; have e0 := frozen_blk b3 0; have e1 := frozen_blk b3 1; have e2 := frozen_blk b3 2)
          refine bodyPost_ret (results_rt rfl _ _ S _ rfl (run_loadVar_row _ _ _ _ _ _ _ (set3_all' b3) Try.underlying24 rfl (by kernel_rfl))) rfl ?_
          have g3 := gw.trans (Gb.of_nb n3)
          exact ⟨((g3.far hSw _ _).far hSw _ _).far hSw _ _, by rw [heap_setCell_other _ _ _ _ hmS, heap_setCell_other _ _ _ _ hmS, heap_setCell_other _ _ _ _ hmS]; exact n3.block bM2, he.out, rfl⟩
        | good p =>
          subst hR
          obtain ⟨kk, nn, rfl, hmd, hk4, hn0, hn1⟩ := hmM.out 0 p hT.out
          replace hvo : Hid (∀ W, Calls Try.prog 39 #[.int .u64 wd] W (fun r w' => r = .returned (.tuple #[.agg #[.int .i64 kk, .int .i64 nn, .slice none 0 0], .int .i64 0]) ∧ Nb W w')) := hvo
          have hlm : (Vl.mk kk nn (.slice none 0 0) []).may = true := by rw [Vl.may_eq]; simp [Vl.kind, Vl.n, Vl.args, hmd]
          have hld : (Vl.mk kk nn (.slice none 0 0) []).dp = 0 := Vl.dp_leaf hk4
          replace hlm := Lib.hid hlm
          replace hld := Lib.hid hld
          replace hmd := Lib.hid hmd
          replace hk4 := Lib.hid hk4
          have hrg := Lib.hid (And.intro hn0 hn1)
          clear hn0 hn1 hmM hT
          go_wp2_with (go_at_call 39; refine (hvo.out _).mono ?_; rintro r w3 ⟨rfl, n3⟩; have b3 := n3.block bS; have d0 := cell_of_row _ _ 0 _ _ _ b3; have d1 := cell_of_row _ _ 1 _ _ _ b3; have d2 := cell_of_row _ _ 2 _ _ _ b3; have e0 := frozen_blk b3 0; have e1 := frozen_blk b3 1; have e2 := frozen_blk b3 2)
          refine bodyPost_ret (results_rt rfl _ _ S _ rfl (run_loadVar_row _ _ _ _ _ _ _ (set3_all' b3) Try.underlying24 rfl (by kernel_rfl))) rfl ?_
          have g3 := gw.trans (Gb.of_nb n3)
          refine ⟨((g3.far hSw _ _).far hSw _ _).far hSw _ _, by rw [heap_setCell_other _ _ _ _ hmS, heap_setCell_other _ _ _ _ hmS, heap_setCell_other _ _ _ _ hmS]; exact n3.block bM2, Vl.mk kk nn (.slice none 0 0) [], rfl, rfl, leaf_has _ _ hrg.out, .mk (fun b o L c he => by simp [Vl.av] at he) (fun x hx => by simp [Vl.args] at hx), hlm.out, by rw [hld.out]; omega⟩
  | succ k ih =>
    intro ar har wd hd0 hd1 met hmet w hw
    obtain ⟨R, hR⟩ : ∃ R, decV xs bs (k + 1) wd met = R := ⟨_, rfl⟩
    rw [hR]
    unfold decV at hR
    have hand := and_three wd hd0 hd1
    go_enter Try.func38, Try.ntmps38
    go_upto_region 1 with (fail)
    obtain ⟨W1, hW⟩ : ∃ W1, w.alloc (Obj.cells #[.int .i64 0, .int .i64 0, .slice none 0 0] 24) = W1 := ⟨_, rfl⟩
    have n1 : Nb w W1 := by rw [← hW]; exact (Nb.refl w).alloc _
    have bS : W1.heap[w.heap.size]? = some (.cells #[.int .i64 0, .int .i64 0, .slice none 0 0] 24 (0, 0)) := by rw [← hW]; exact new_blk w _ rfl
    rw [hW]
    clear hW
    have h1 := hw.go n1
    have hmw := lt_blk hw.mbox
    obtain ⟨S, hS⟩ : ∃ S, w.heap.size = S := ⟨_, rfl⟩
    have hSw : w.heap.size ≤ S := by omega
    have hmS : mt ≠ S := by omega
    rw [hS] at bS ⊢
    clear hS hw hmw
    have m0 := cell_of_row _ _ 0 _ _ _ h1.mbox
    have mf := frozen_blk h1.mbox 0
    go_upto_region 2 with (fail)
    obtain ⟨W2, hW2⟩ : ∃ W2, W1.setCell ⟨mt, 0, none⟩ (.int .i64 ((met : Int) + 1)) = W2 := ⟨_, rfl⟩
    have g2 : Gb mt W1 W2 := by rw [← hW2]; exact (Gb.refl mt W1).set 0 _
    have bM2 : W2.heap[mt]? = some (.cells #[.int .i64 ((met + 1 : Nat) : Int)] 3 (0, 0)) := by rw [← hW2, show ((met + 1 : Nat) : Int) = (met : Int) + 1 by omega]; exact heap_setCell_same _ _ _ _ _ _ h1.mbox
    have h2 := h1.gb g2 bM2
    replace bS := g2.block bS (Ne.symm hmS)
    rw [hW2]
    clear hW2 m0 mf h1
    obtain ⟨M, hM⟩ : ∃ M, met + 1 = M := ⟨_, rfl⟩
    rw [hM] at h2 bM2 hR
    have hM1 : M ≤ 4097 := by omega
    have gw : Gb mt w W2 := (Gb.of_nb n1).trans g2
    clear g2 n1 hM
    have m0 := cell_of_row _ _ 0 _ _ _ h2.mbox
    have c0 := cell_of_row _ _ 0 _ _ _ bS
    have c1 := cell_of_row _ _ 1 _ _ _ bS
    have c2 := cell_of_row _ _ 2 _ _ _ bS
    have f0 := frozen_blk bS 0
    have f1 := frozen_blk bS 1
    have f2 := frozen_blk bS 2
    by_cases hgt : 4096 < M
    · rw [if_pos hgt] at hR
      subst hR
      have hgi : (4096 : Int) < (M : Int) := by omega
      clear hgt
      go_wp2_with fail
      refine bodyPost_ret (results_rt rfl _ _ S _ rfl (run_loadVar_row _ _ _ _ _ _ _ (set3_all' bS) Try.underlying24 rfl (by kernel_rfl))) rfl ?_
      exact ⟨((gw.far hSw _ _).far hSw _ _).far hSw _ _, by rw [heap_setCell_other _ _ _ _ hmS, heap_setCell_other _ _ _ _ hmS, heap_setCell_other _ _ _ _ hmS]; exact bM2, by decide, rfl⟩
    · rw [if_neg hgt] at hR
      have hgi : ¬ (4096 : Int) < (M : Int) := by omega
      by_cases ht : wd % 4 = 1
      · rw [if_neg (fun h => h ht)] at hR
        rw [ht] at hand
        have har2 : ¬ (ar : Int) = 64 := by omega
        have hw1 : 1 ≤ wd := by omega
        have hw2 : 0 ≤ wd - 1 := by omega
        have hw3 : wd - 1 < 18446744073709551616 := by omega
        obtain ⟨A, c, hsv, -, -, -⟩ := hv.head
        rw [List.length_map] at hsv
        obtain ⟨n, hn⟩ : ∃ n, xs.length = n := ⟨_, rfl⟩
        rw [hn] at hsv
        have hpa := Lib.hid (fun W (h : Nb W0 W) => partsAt_any xs bs (wd - 1) hx hl hb0 hb1 (by omega) (by omega) sv W0 hv W h)
        rw [hsv] at hpa
        have wb2 := h2.wbox
        rw [hsv] at wb2
        replace hsv := Lib.hid hsv
        have w0 := cell_of_row _ _ 0 _ _ _ wb2
        have b0 := cell_of_row _ _ 0 _ _ _ h2.bbox
        cases hP : partsR xs bs (wd - 1) with
        | none =>
          rw [hP] at hR
          replace hR : (M, Rs.bad 151) = R := hR
          subst hR
          have hpb : Hid (Calls Try.prog 40 #[.int .u64 (wd - 1), .slice A n c, .int .u64 bs] W2 (fun r w' => r = .returned (.tuple #[.slice none 0 0, .bool false]) ∧ W2 = w')) := Lib.hid ((hpa.out W2 h2.nb).mono fun r w' h => by
            obtain ⟨h1, h2⟩ := h
            rcases h1 with ⟨-, h3⟩ | ⟨ps, v', h3, -⟩
            · exact ⟨h3, h2⟩
            · rw [hP] at h3; cases h3)
          clear hpa hP wb2 ht
          go_wp2_with (go_at_call 40; refine (hpb.out).mono ?_; rintro r w3 ⟨rfl, rfl⟩)
          refine bodyPost_ret (results_rt rfl _ _ S _ rfl (run_loadVar_row _ _ _ _ _ _ _ (set3_all' bS) Try.underlying24 rfl (by kernel_rfl))) rfl ?_
          exact ⟨((gw.far hSw _ _).far hSw _ _).far hSw _ _, by rw [heap_setCell_other _ _ _ _ hmS, heap_setCell_other _ _ _ _ hmS, heap_setCell_other _ _ _ _ hmS]; exact bM2, by decide, rfl⟩
        | some ps =>
          rw [hP] at hR
          replace hR : decL (decV xs bs k) ps M [] = R := hR
          obtain ⟨-, -, -, kk, L, -, hkl, hkm, hL1, hL4, hkL, hps⟩ := partsR_some hP
          have hpl : ps.length = L := by rw [hps]; simp; omega
          have hpx : ∀ x ∈ ps, 0 ≤ x ∧ x < 18446744073709551616 := fun x h => hx x (by rw [hps] at h; exact List.mem_of_mem_drop (List.mem_of_mem_take h))
          have hpb : Hid (Calls Try.prog 40 #[.int .u64 (wd - 1), .slice A n c, .int .u64 bs] W2 (fun r w' => ∃ vp, r = .returned (.tuple #[vp, .bool true]) ∧ WdsR W0 vp ps ∧ W2 = w')) := Lib.hid ((hpa.out W2 h2.nb).mono fun r w' h => by
            obtain ⟨h1, h2⟩ := h
            rcases h1 with ⟨h3, -⟩ | ⟨ps', v', h3, h4, h5⟩
            · rw [hP] at h3; cases h3
            · rw [hP] at h3
              simp only [Option.some.injEq] at h3
              subst h3
              exact ⟨v', h4, h5, h2⟩)
          have hzL := lt_blk bS
          obtain ⟨i0, hi, hz0, hz1, hz2⟩ := partsA
          replace hR := Lib.hid hR
          replace hpl := Lib.hid hpl
          replace hpx := Lib.hid hpx
          clear hpa hP wb2 ht hkl hkm hkL hps kk hmet hx hv hl
          go_upto_region 11 with (go_at_call 40; refine (hpb.out).mono ?_; rintro r w3 ⟨vp, rfl, hvp, rfl⟩)
          obtain ⟨Ap, cp, rfl, hLc, -, -⟩ := hvp.head
          rw [List.length_map, hpl.out] at hLc hvp ⊢
          replace hvp := Lib.hid hvp
          go_upto_region 12 with (refine wpList_make_full _ rfl (.tmp 44) (.tmp 44) 22 rfl W2.heap.size 24 i0 (.agg #[.int .i64 0, .int .i64 0, .slice none 0 0]) 3 Try.underlying22 hi hz0 hz1 .i64 .i64 _ _ L rfl rfl rfl rfl ?c1 ?c2 ?c3 ?_)
          case c1 => rw [hz2]; omega
          case c2 => unfold maxLen; omega
          case c3 => exact Nat.le_refl _
          intro w4 hown4 hg4
          have n4 : Nb W2 w4 := ⟨hg4.os, hg4.tape, hg4.output, hg4.size, fun i hi => World.grownBy.block hg4 i hi (by simp)⟩
          obtain ⟨g, hg⟩ : ∃ g, W2.heap.size = g := ⟨_, rfl⟩
          have hgS : S < g := by omega
          have hgm : mt < g := by have := lt_blk bM2; omega
          obtain ⟨B0, hB0⟩ : ∃ B, W2.heap.size = B := ⟨_, rfl⟩
          rw [hg] at hown4
          have hown4' : w4.ownsRow B0 24 3 (.slice (some ⟨g, 0, none⟩) L L) L (madeCells (Value.agg #[.int .i64 0, .int .i64 0, .slice none 0 0]).cells (L * 3)).toList := by rw [← hB0, hg]; exact hown4
          have hgw : w.heap.size ≤ g := by have := gw.size; omega
          have hB0g : B0 = g := by omega
          go_upto_region 12 with (fail)
          rw [hg]
          clear hown4 hg4 hg hB0 c0 c1 c2 f0 f1 f2 m0 w0 b0
          obtain ⟨W5, hW5⟩ : ∃ W5, w4.alloc (Obj.cells #[.int .i64 4, .int .i64 0, .slice (some ⟨g, 0, none⟩) L L] 24) = W5 := ⟨_, rfl⟩
          have n45 : Nb w4 W5 := by rw [← hW5]; exact (Nb.refl w4).alloc _
          have bV : W5.heap[w4.heap.size]? = some (.cells #[.int .i64 4, .int .i64 0, .slice (some ⟨g, 0, none⟩) L L] 24 (0, 0)) := by rw [← hW5]; exact new_blk _ _ rfl
          rw [hW5]
          clear hW5
          have hgV : g < w4.heap.size := (hown4'.lt g rfl).2
          obtain ⟨V, hV⟩ : ∃ V, w4.heap.size = V := ⟨_, rfl⟩
          rw [hV] at bV hgV ⊢
          clear hV
          have n5 := n4.trans n45
          have hD0 : DL W0 mt wb bb rb sv bs k xs ps R w B0 S V g L 0 [] M (madeCells (Value.agg #[.int .i64 0, .int .i64 0, .slice none 0 0]).cells (L * 3)).toList W5 :=
            ⟨h2.go n5, by omega, by rw [List.drop_zero]; exact hR.out, rfl, hown4'.kept (row := none) ⟨n45.os, n45.tape, n45.output, n45.size, fun i hi _ => Below.block n45 i hi⟩ (.inr (by simp [Value.ownBlock])), fun i x hx => by simp at hx, fun x hx => by simp at hx, gw.trans (Gb.of_nb n5), n5.block bS, bV⟩
          replace hD0 := Lib.hid hD0
          clear n4 n45 n5 hown4' h2 bM2 bS bV gw hR
          go_wp2_with fail
          go_loopw [49] (fun si wr => ∃ (i : Nat) (acc : List Vl) (m : Nat) (X : List Value), i ≤ L ∧ si = .int .i64 i ∧ Hid (DL W0 mt wb bb rb sv bs k xs ps R w B0 S V g L i acc m X wr)) (fun si _ => L - (intOf si).toNat)
          case atStart => exact ⟨0, [], M, _, Nat.zero_le _, rfl, hD0⟩
          case round =>
            obtain ⟨i, acc, m, X, hii, rfl, hD⟩ := hrel
            clear hD0
            by_cases hlt : i < L
            · have hlt2 : (i : Int) < (L : Int) := by omega
              obtain ⟨q, hq⟩ : ∃ q, ps[i]? = some q := ⟨_, List.getElem?_eq_getElem (by rw [hpl.out]; exact hlt)⟩
              have hqr := hpx.out q (List.mem_of_getElem? hq)
              obtain ⟨b', o', rfl, hqc⟩ := hvp.out.at_ (i := i) (r := [.int .u64 q]) (by rw [List.getElem?_map, hq]; rfl)
              have cq := hD.out.dc.nb.cell (hqc 0 _ rfl)
              rw [Nat.mul_one, Nat.add_zero] at cq
              have hcall := ih (ar + 1) (by omega) q hqr.1 hqr.2 m hD.out.hm wr hD.out.dc
              have hstep := hD.out.step
              rw [drop_some hq, decL] at hstep
              obtain ⟨Rq, hRq⟩ : ∃ Rq, decV xs bs k q m = Rq := ⟨_, rfl⟩
              have hmet2 := decV_met xs bs k q m
              rw [hRq] at hcall hstep hmet2
              obtain ⟨m2, rs⟩ := Rq
              have qr := cell_of_row _ _ 0 _ _ _ hD.out.dc.rbox
              rw [show ((ar + 1 : Nat) : Int) = (ar : Int) + 1 by omega] at hcall
              cases rs with
              | bad e =>
                replace hstep : (m2, Rs.bad e) = R := hstep
                subst hstep
                replace hcall : Hid (Calls Try.prog 38 #[.int .u64 q, .int .i64 ((ar : Int) + 1), .pointer (some ⟨mt, 0, none⟩), .pointer (some ⟨wb, 0, none⟩), .pointer (some ⟨bb, 0, none⟩), .pointer (some ⟨rb, 0, none⟩)] wr (fun r w' => ∃ (he : e ≠ 0), r = .returned (.tuple #[.agg #[.int .i64 0, .int .i64 0, .slice none 0 0], .int .i64 e]) ∧ Gb mt wr w' ∧ w'.heap[mt]? = some (.cells #[.int .i64 (m2 : Int)] 3 (0, 0)))) := Lib.hid (hcall.mono fun r w' h => ⟨h.2.2.1, h.2.2.2, h.1, h.2.1⟩)
                clear hRq hmet2 hqc hq
                go_upto_region 16 with (go_at_call 38; refine (hcall.out).mono ?_; rintro r w6 ⟨he, rfl, g6, bM6⟩)
                have he2 : (e == 0) = false := by simpa using he
                have he3 : (e != 0) = true := by simpa using he
                obtain ⟨W7, hW7⟩ : ∃ W7, w6.alloc (Obj.cells #[.int .i64 0, .int .i64 0, .slice none 0 0] 24) = W7 := ⟨_, rfl⟩
                have n67 : Nb w6 W7 := by rw [← hW7]; exact (Nb.refl w6).alloc _
                have bJ : W7.heap[w6.heap.size]? = some (.cells #[.int .i64 0, .int .i64 0, .slice none 0 0] 24 (0, 0)) := by rw [← hW7]; exact new_blk _ _ rfl
                rw [hW7]
                clear hW7
                have bS7 := n67.block (g6.block hD.out.bS (Ne.symm hmS))
                have g7 := (hD.out.gb.trans g6).trans (Gb.of_nb n67)
                have bM7 := n67.block bM6
                have c0 := cell_of_row _ _ 0 _ _ _ bS7
                have c1 := cell_of_row _ _ 1 _ _ _ bS7
                have c2 := cell_of_row _ _ 2 _ _ _ bS7
                have f0 := frozen_blk bS7 0
                have f1 := frozen_blk bS7 1
                have f2 := frozen_blk bS7 2
                clear g6 bM6 n67 bJ hD cq qr hcall
                go_wp2_with fail
                refine bodyPost_ret (results_rt rfl _ _ S _ rfl (run_loadVar_row _ _ _ _ _ _ _ (set3_all' bS7) Try.underlying24 rfl (by kernel_rfl))) rfl ?_
                exact ⟨((g7.far hSw _ _).far hSw _ _).far hSw _ _, by rw [heap_setCell_other _ _ _ _ hmS, heap_setCell_other _ _ _ _ hmS, heap_setCell_other _ _ _ _ hmS]; exact bM7, he, rfl⟩
              | good pq =>
                replace hstep : decL (decV xs bs k) (ps.drop (i + 1)) m2 (acc.map Vl.sh ++ [pq]) = R := hstep
                have hm2 : m2 ≤ 4096 := hmet2 m2 pq hD.out.hm rfl
                replace hcall : Hid (Calls Try.prog 38 #[.int .u64 q, .int .i64 ((ar : Int) + 1), .pointer (some ⟨mt, 0, none⟩), .pointer (some ⟨wb, 0, none⟩), .pointer (some ⟨bb, 0, none⟩), .pointer (some ⟨rb, 0, none⟩)] wr (fun r w' => ∃ (kd nn : Int) (A' : Option Addr) (L' c' : Nat) (l : List Vl), r = .returned (.tuple #[.agg #[.int .i64 kd, .int .i64 nn, .slice A' L' c'], .int .i64 0]) ∧ Gb mt wr w' ∧ w'.heap[mt]? = some (.cells #[.int .i64 (m2 : Int)] 3 (0, 0)) ∧ Hid ((Vl.mk kd nn (.slice A' L' c') l).sh = pq ∧ (Vl.mk kd nn (.slice A' L' c') l).Has w' ∧ (Vl.mk kd nn (.slice A' L' c') l).Frv wr.heap.size w' ∧ (Vl.mk kd nn (.slice A' L' c') l).may = true ∧ (Vl.mk kd nn (.slice A' L' c') l).dp ≤ k))) := Lib.hid (hcall.mono fun r w' h => by
                  obtain ⟨ha, hb, v, hc, hd, he, hf, hg, hh⟩ := h
                  obtain ⟨A', c', hav, -, -, -⟩ := he.vls.head
                  cases v with
                  | mk kd nn av l =>
                    simp only [Vl.av, Vl.args] at hav
                    subst hav
                    exact ⟨kd, nn, A', _, c', l, hc, ha, hb, Lib.hid ⟨hd, he, hf, hg, hh⟩⟩)
                replace hstep := Lib.hid hstep
                clear hRq hmet2 hqc hq
                go_upto_region 16 with (go_at_call 38; refine (hcall.out).mono ?_; rintro r w6 ⟨kd, nn, A', L', c', l, rfl, g6, bM6, hv6⟩)
                obtain ⟨W7, hW7⟩ : ∃ W7, w6.alloc (Obj.cells #[.int .i64 kd, .int .i64 nn, .slice A' L' c'] 24) = W7 := ⟨_, rfl⟩
                have n67 : Nb w6 W7 := by rw [← hW7]; exact (Nb.refl w6).alloc _
                have bJ : W7.heap[w6.heap.size]? = some (.cells #[.int .i64 kd, .int .i64 nn, .slice A' L' c'] 24 (0, 0)) := by rw [← hW7]; exact new_blk _ _ rfl
                rw [hW7]
                clear hW7
                obtain ⟨J, hJ⟩ : ∃ J, w6.heap.size = J := ⟨_, rfl⟩
                rw [hJ] at bJ ⊢
                clear hJ
                have g7 := g6.trans (Gb.of_nb n67)
                have bM7 := n67.block bM6
                have bV7 := g7.block hD.out.bV (by omega)
                have own7 := own_gb hD.out.own g7 hgm
                have v0 := cell_of_row _ _ 2 _ _ _ bV7
                have j0 := cell_of_row _ _ 0 _ _ _ bJ
                have j1 := cell_of_row _ _ 1 _ _ _ bJ
                have j2 := cell_of_row _ _ 2 _ _ _ bJ
                have hXl := own7.1
                have c0 := own7.cellAt (i * 3) (by omega)
                have c1 := own7.cellAt (i * 3 + 1) (by omega)
                have c2 := own7.cellAt (i * 3 + 2) (by omega)
                rw [List.getElem?_eq_getElem (by omega)] at c0 c1 c2
                have f0 := own7.frozenAt (i * 3)
                have f1 := own7.frozenAt (i * 3 + 1)
                have f2 := own7.frozenAt (i * 3 + 2)
                generalize X[i * 3] = x0 at c0
                generalize X[i * 3 + 1] = x1 at c1
                generalize X[i * 3 + 2] = x2 at c2
                have hlast := Lib.hid (hD.out.next hlt hm2 (v := Vl.mk kd nn (.slice A' L' c') l) (by rw [hv6.out.1]; exact hstep.out) g7 bM7 (keeps_nb n67 hv6.out.2.1 hv6.out.2.2.1).1 ((keeps_nb n67 hv6.out.2.1 hv6.out.2.2.1).2.mono (by have := lt_blk hD.out.bV; omega)) hv6.out.2.2.2.1 hv6.out.2.2.2.2 hgm hgS hgV hgw hmS _ _ _ rfl)
                clear g6 bM6 n67 hD cq qr hcall own7 hXl hv6 hstep bV7 bJ
                go_wp2_with fail
                exact ⟨⟨i + 1, _, m2, _, by omega, by rw [show ((i + 1 : Nat) : Int) = (i : Int) + 1 by omega], hlast⟩, by show L - ((i : Int) + 1).toNat < L - ((i : Int)).toNat; omega⟩
            · obtain rfl : i = L := by omega
              have bS7 := hD.out.bS
              have bV7 := hD.out.bV
              have v0 := cell_of_row _ _ 0 _ _ _ bV7
              have v1 := cell_of_row _ _ 1 _ _ _ bV7
              have v2 := cell_of_row _ _ 2 _ _ _ bV7
              have c0 := cell_of_row _ _ 0 _ _ _ bS7
              have c1 := cell_of_row _ _ 1 _ _ _ bS7
              have c2 := cell_of_row _ _ 2 _ _ _ bS7
              have f0 := frozen_blk bS7 0
              have f1 := frozen_blk bS7 1
              have f2 := frozen_blk bS7 2
              have hlt2 : ¬ (i : Int) < (i : Int) := by omega
              go_wp2_with fail
              refine bodyPost_ret (results_rt rfl _ _ S _ rfl (run_loadVar_row _ _ _ _ _ _ _ (set3_all' bS7) Try.underlying24 rfl (by kernel_rfl))) rfl ?_
              exact hD.out.done hpl.out hL1 hL4 hSw hmS hgS hgw rfl _ _ _
      · rw [if_pos ht] at hR
        have hand2 : (wd % 4 == 1) = false := by simpa using ht
        have hand3 : (wd % 4 != 1) = true := by simpa using ht
        have hvo := Lib.hid (fun W => valueOf_any wd hd0 hd1 ht W)
        have hmM := Lib.hid (leaf_may wd hd0 hd1)
        obtain ⟨T, hT⟩ : ∃ T, leafR wd = T := ⟨_, rfl⟩
        rw [hT] at hvo hR
        replace hT := Lib.hid hT
        cases T with
        | bad e =>
          subst hR
          have he : e ≠ 0 := by
            have := hT.out
            unfold leafR at this
            split at this
            · cases this
            · split at this
              · simp only [Rs.bad.injEq] at this; omega
              · cases this
          replace hvo : Hid (∀ W, Calls Try.prog 39 #[.int .u64 wd] W (fun r w' => r = .returned (.tuple #[.agg #[.int .i64 0, .int .i64 0, .slice none 0 0], .int .i64 e]) ∧ Nb W w')) := hvo
          replace he := Lib.hid he
          go_wp2_with (go_at_call 39; refine (hvo.out _).mono ?_; rintro r w3 ⟨rfl, n3⟩; have b3 := n3.block bS; have d0 := cell_of_row _ _ 0 _ _ _ b3; have d1 := cell_of_row _ _ 1 _ _ _ b3; have d2 := cell_of_row _ _ 2 _ _ _ b3; have e0 := frozen_blk b3 0; have e1 := frozen_blk b3 1; have e2 := frozen_blk b3 2)
          refine bodyPost_ret (results_rt rfl _ _ S _ rfl (run_loadVar_row _ _ _ _ _ _ _ (set3_all' b3) Try.underlying24 rfl (by kernel_rfl))) rfl ?_
          have g3 := gw.trans (Gb.of_nb n3)
          exact ⟨((g3.far hSw _ _).far hSw _ _).far hSw _ _, by rw [heap_setCell_other _ _ _ _ hmS, heap_setCell_other _ _ _ _ hmS, heap_setCell_other _ _ _ _ hmS]; exact n3.block bM2, he.out, rfl⟩
        | good p =>
          subst hR
          obtain ⟨kk, nn, rfl, hmd, hk4, hn0, hn1⟩ := hmM.out 0 p hT.out
          replace hvo : Hid (∀ W, Calls Try.prog 39 #[.int .u64 wd] W (fun r w' => r = .returned (.tuple #[.agg #[.int .i64 kk, .int .i64 nn, .slice none 0 0], .int .i64 0]) ∧ Nb W w')) := hvo
          have hlm : (Vl.mk kk nn (.slice none 0 0) []).may = true := by rw [Vl.may_eq]; simp [Vl.kind, Vl.n, Vl.args, hmd]
          have hld : (Vl.mk kk nn (.slice none 0 0) []).dp = 0 := Vl.dp_leaf hk4
          replace hlm := Lib.hid hlm
          replace hld := Lib.hid hld
          replace hmd := Lib.hid hmd
          replace hk4 := Lib.hid hk4
          have hrg := Lib.hid (And.intro hn0 hn1)
          clear hn0 hn1 hmM hT
          go_wp2_with (go_at_call 39; refine (hvo.out _).mono ?_; rintro r w3 ⟨rfl, n3⟩; have b3 := n3.block bS; have d0 := cell_of_row _ _ 0 _ _ _ b3; have d1 := cell_of_row _ _ 1 _ _ _ b3; have d2 := cell_of_row _ _ 2 _ _ _ b3; have e0 := frozen_blk b3 0; have e1 := frozen_blk b3 1; have e2 := frozen_blk b3 2)
          refine bodyPost_ret (results_rt rfl _ _ S _ rfl (run_loadVar_row _ _ _ _ _ _ _ (set3_all' b3) Try.underlying24 rfl (by kernel_rfl))) rfl ?_
          have g3 := gw.trans (Gb.of_nb n3)
          refine ⟨((g3.far hSw _ _).far hSw _ _).far hSw _ _, by rw [heap_setCell_other _ _ _ _ hmS, heap_setCell_other _ _ _ _ hmS, heap_setCell_other _ _ _ _ hmS]; exact n3.block bM2, Vl.mk kk nn (.slice none 0 0) [], rfl, rfl, leaf_has _ _ hrg.out, .mk (fun b o L c he => by simp [Vl.av] at he) (fun x hx => by simp [Vl.args] at hx), hlm.out, by rw [hld.out]; omega⟩
end Go.Proofs.Ytmoggaecnjcjfaa
