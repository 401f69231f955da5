/-
  Proved here: the reference's value of a word, any depth. Conditions: the memory holds the words; they are words.
-/
import Derived.Test.YtmoggaecnjcjfaaXg
import Derived.Deep.QuietTactic
import Derived.BigQuiet
namespace Go.Proofs.Ytmoggaecnjcjfaa
open Go.RowKit Go.ChangeMaps
set_option linter.unusedVariables false
set_option linter.unusedSimpArgs false
set_option maxRecDepth 100000
set_option maxHeartbeats 4000000
theorem place_room {a bs : Int} {p : Nat} (ha1 : a < 18446744073709551616) (hb0 : 0 ≤ bs) (hp : (a - bs) / 8 = (p : Int)) : (p : Int) < 9223372036854775808 ∧ wrap64 (p : Int) = (p : Int) := by
  have h : (p : Int) < 9223372036854775808 := by omega
  exact ⟨h, by unfold wrap64; omega⟩
theorem many_room {m : Int} (h0 : 0 ≤ m) (h1 : m ≤ 4) : wrap64 m = m := by unfold wrap64; omega
theorem own_lit {w : World} {base n : Nat} {v : Value} {X : List Value} (h : w.ownsRow base 24 3 v n X) : ∃ B c, v = .slice B n c := by
  rcases h.2 with ⟨rfl, rfl⟩ | ⟨g, cap, cur, rfl, _, _, hc, _⟩
  · exact ⟨none, 0, rfl⟩
  · exact ⟨_, cap, rfl⟩
theorem newsV (w : World) (a b c : Value) : ∀ j u, ([a, b, c] : List Value)[j]? = some u → (w.alloc (.cells #[a, b, c] 24)).cell? ((⟨w.heap.size, 0, none⟩ : Addr).add j) = some u := fun j u h =>
  World.news_of_block (cs := #[a, b, c]) (t := 24) (fr := (0, 0)) (heap_alloc_new w _) j u (by simpa using h)
theorem one_cellV (k n : Int) (A : Option Addr) (L c : Nat) : ∀ u ∈ ([.int .i64 k, .int .i64 n, .slice A L c] : List Value), u.oneCell' = true := by
  intro u hu
  simp only [List.mem_cons, List.mem_nil_iff, or_false] at hu
  rcases hu with rfl | rfl | rfl <;> rfl
theorem tuple_has2 {w : World} {base g L cp lb : Nat} {X : List Value} {acc : List Vl} (ho : w.ownsRow base 24 3 (.slice (some ⟨g, 0, none⟩) L cp) L X) (hl : acc.length = L) (hf : Firsts X acc) (hb : lb ≤ g) (hk : ∀ x ∈ acc, x.Has w ∧ x.Frv lb w) (hL : L ≤ 1000) (hcp : L ≤ cp) :
    (Vl.mk 4 0 (.slice (some ⟨g, 0, none⟩) L cp) acc).Has w ∧ (Vl.mk 4 0 (.slice (some ⟨g, 0, none⟩) L cp) acc).Frv lb w := by
  refine ⟨.mk ⟨some ⟨g, 0, none⟩, cp, by simp [Vl.av, Vl.args, hl], by simp [Vl.args, hl]; omega, by simp [Vl.args, hl]; omega, (fun h => by cases h), ?_⟩ (fun x hx => (hk x hx).1) (by simp [Vl.n]), .mk ?_ (fun x hx => (hk x hx).2)⟩
  · intro i r hi
    refine ⟨g, 0, rfl, fun j u hu => ?_⟩
    rw [List.getElem?_map, Option.map_eq_some_iff] at hi
    obtain ⟨x, hx, rfl⟩ := hi
    replace hx : acc[i]? = some x := hx
    have hj : j < 3 := by have := (List.getElem?_eq_some_iff.1 hu).1; simpa [Vl.cells] using this
    have hil := (List.getElem?_eq_some_iff.1 hx).1
    rw [show 0 + i * 3 + j = i * 3 + j by omega, ho.cellAt (i * 3 + j) (by omega)]
    exact hf i x hx j u hu
  · intro b o L' c he
    simp only [Vl.av, Value.slice.injEq, Option.some.injEq, Addr.mk.injEq] at he
    obtain ⟨⟨rfl, -⟩, -⟩ := he
    rcases ho.2 with ⟨h0, -⟩ | ⟨g', cap, cur, h0, _, hg, _⟩
    · cases h0
    · simp only [Value.slice.injEq, Option.some.injEq, Addr.mk.injEq, and_true, true_and] at h0
      obtain ⟨rfl, -⟩ := h0
      exact ⟨hb, cur, hg⟩
theorem TL.done {W0 : World} {rd : Nat} {sv : Value} {bs : Int} {k : Nat} {xs ps : List Int} {R : Nat × Rs} {w : World} {S V M : Nat} {acc : List Vl} {m : Nat} {X : List Value} {av : Value} {wr : World} (h : TL W0 rd sv bs k xs ps R w S V M acc m X av wr) (hp : ps.length = M) (hM1 : 1 ≤ M) (hM4 : M ≤ 4) (hSw : w.heap.size ≤ S) (hmS : rd ≠ S) (hSV : S < V) {r : Ending}
    (hr : r = .returned (.tuple #[.agg #[.int .i64 4, .int .i64 0, av], .int .i64 0])) (x y z : Value) : RAns R rd sv bs w r (((wr.setCell ⟨S, 0, none⟩ x).setCell ⟨S, 1, none⟩ y).setCell ⟨S, 2, none⟩ z) := by
  have hs := h.step
  rw [List.drop_of_length_le (by omega), decL] at hs
  subst hs
  have hlen := h.len
  have ol := h.own.lt
  have hT : (Vl.mk 4 0 av acc).Has wr ∧ (Vl.mk 4 0 av acc).Frv (V + 1) wr := by
    rcases h.own.2 with ⟨_, h0⟩ | ⟨g, cap, cur, rfl, hb, hg, hc, _⟩
    · omega
    · exact tuple_has2 h.own hlen h.fst hb (fun x hx => (h.kid x hx).1) (by omega) hc
  obtain ⟨p, q⟩ := hT
  refine ⟨((h.gb.far hSw _ _).far hSw _ _).far hSw _ _, by rw [heap_setCell_other _ _ _ _ hmS, heap_setCell_other _ _ _ _ hmS, heap_setCell_other _ _ _ _ hmS]; exact h.hat.box, .mk 4 0 av acc, hr, by rw [Vl.sh_eq]; rfl, ?_⟩
  have hS1 : S < V + 1 := by omega
  obtain ⟨p, q⟩ := keeps_set ⟨S, 0, none⟩ hS1 x p q
  obtain ⟨p, q⟩ := keeps_set ⟨S, 1, none⟩ hS1 y p q
  obtain ⟨p, q⟩ := keeps_set ⟨S, 2, none⟩ hS1 z p q
  exact ⟨p, q.mono (by omega)⟩
theorem rtup_any (W0 : World) (rd : Nat) (sv : Value) (xs : List Int) (bs : Int) (hv : WdsR W0 sv xs) (hx : ∀ x ∈ xs, 0 ≤ x ∧ x < 18446744073709551616) (hl : xs.length ≤ 500) (hb0 : 0 ≤ bs) (hb1 : bs < 18446744073709551616) :
    ∀ (left : Nat), left ≤ 64 → ∀ (a : Int), 0 ≤ a → a < 18446744073709551616 → ∀ (met : Nat), met ≤ 4096 → ∀ w, RdAt W0 rd sv bs w met →
    Calls Try.prog 49 #[.pointer (some ⟨rd, 0, none⟩), .int .u64 a, .int .i64 (left : Int)] w (RAns (decT xs bs left a met) rd sv bs w) := by
  intro left
  induction left with
  | zero =>
    intro hlf a ha0 ha1 met hmet w hw
    have b0 := hw.box
    have hlt := lt_blk b0
    go_enter Try.func49, Try.ntmps49
    go_wp2_with fail
    refine bodyPost_ret (results_rt rfl _ _ w.heap.size _ rfl (run_loadVar_row _ _ _ _ _ _ _ (new_blk w _ rfl) Try.underlying24 rfl (by kernel_rfl))) rfl ?_
    exact ⟨Gb.of_nb ((Nb.refl w).alloc _), old_blk b0 _, by decide, rfl⟩
  | succ k ih =>
    intro hlf a ha0 ha1 met hmet w hw
    obtain ⟨R, hR⟩ : ∃ R, decT xs bs (k + 1) a met = R := ⟨_, rfl⟩
    rw [hR]
    replace hR : (match partsR xs bs a with | none => (met, Rs.bad 151) | some ps => decL (decV xs bs k) ps met []) = R := hR
    have hc := partsR_cases xs bs a hx
    obtain ⟨A, c, hsv, hcp, -, hA⟩ := hv.head
    rw [List.length_map] at hsv hcp
    obtain ⟨n, hn⟩ : ∃ n, xs.length = n := ⟨_, rfl⟩
    rw [hn] at hsv hcp hc hl
    have hk0 : ¬ ((k + 1 : Nat) : Int) = 0 := by omega
    have hk1 : ((k + 1 : Nat) : Int) - 1 = (k : Int) := by omega
    have hk9 : (((k + 1 : Nat) : Int) == 0) = false := by simpa using hk0
    obtain ⟨kk, hkk⟩ : ∃ j : Nat, k + 1 = j := ⟨_, rfl⟩
    rw [hkk] at hk0 hk1 hk9 ⊢
    have hw2 := hw
    rw [hsv] at hw2
    go_enter Try.func49, Try.ntmps49
    go_upto_region 1 with (fail)
    obtain ⟨W1, hW⟩ : ∃ W1, w.alloc (Obj.cells #[.int .i64 0, .int .i64 0, .slice none 0 0] 24) = W1 := ⟨_, rfl⟩
    have n1 : Nb w W1 := by rw [← hW]; exact (Nb.refl w).alloc _
    have bS : W1.heap[w.heap.size]? = some (.cells #[.int .i64 0, .int .i64 0, .slice none 0 0] 24 (0, 0)) := by rw [← hW]; exact new_blk w _ rfl
    rw [hW]
    clear hW
    have h1 := hw2.go n1
    have hmw := lt_blk hw2.box
    obtain ⟨S, hS⟩ : ∃ S, w.heap.size = S := ⟨_, rfl⟩
    have hSw : w.heap.size ≤ S := by omega
    have hrS : rd < S := by omega
    have hmS : rd ≠ S := by omega
    rw [hS] at bS ⊢
    clear hS hmw hw2
    have r0 := cell_of_row _ _ 0 _ _ _ h1.box
    have r1 := cell_of_row _ _ 1 _ _ _ h1.box
    have c0 := cell_of_row _ _ 0 _ _ _ bS
    have c1 := cell_of_row _ _ 1 _ _ _ bS
    have c2 := cell_of_row _ _ 2 _ _ _ bS
    have f0 := frozen_blk bS 0
    have f1 := frozen_blk bS 1
    have f2 := frozen_blk bS 2
    have gw : Gb rd w W1 := Gb.of_nb n1
    have bM := h1.box
    have fin : ∀ (hP : partsR xs bs a = none), Hid (∀ W, Nb W1 W → ∀ (x y z : Value) (r : Ending), r = .returned (.tuple #[.agg #[.int .i64 0, .int .i64 0, .slice none 0 0], .int .i64 151]) → RAns R rd sv bs w r (((W.setCell ⟨S, 0, none⟩ x).setCell ⟨S, 1, none⟩ y).setCell ⟨S, 2, none⟩ z)) := fun hP => Lib.hid (fun W nW x y z r he => by
      rw [hP] at hR
      replace hR : (met, Rs.bad 151) = R := hR
      subst hR
      rw [hsv]
      exact .no (gw.trans (Gb.of_nb nW)) (nW.block bM) hSw hmS (by decide) _ _ _ he)
    rcases hc with ⟨hP, e1⟩ | ⟨hP, e1, e2⟩ | ⟨hP, e1, e2, e3⟩ | ⟨e1, e2, e3, p, hp, hc⟩
    · have hf := fin hP
      have t1 : (a % 8 != 0) = true := by simpa using e1
      have t2 : (a % 8 == 0) = false := by simpa using e1
      clear fin hP hR hA hsv hv hx
      go_upto_region 3 with (fail)
      go_quiet (fail)
      obtain ⟨W2, hW2⟩ : ∃ W, W1.drewN nq = W := ⟨_, rfl⟩
      have n2 : Nb W1 W2 := by rw [← hW2]; exact (Nb.refl W1).drewN nq
      rw [hW2]
      clear hW2
      replace bS := n2.block bS
      replace c0 := n2.cell c0
      replace c1 := n2.cell c1
      replace c2 := n2.cell c2
      have f0 := frozen_blk bS 0
      have f1 := frozen_blk bS 1
      have f2 := frozen_blk bS 2
      go_wp2_with fail
      refine bodyPost_ret (results_rt rfl _ _ S _ rfl (run_loadVar_row _ _ _ _ _ _ _ (set3_all' bS) Try.underlying24 rfl (by kernel_rfl))) rfl ?_
      exact hf.out _ n2 _ _ _ _ rfl
    · have hf := fin hP
      have t2 : decide (a < bs) = true := by simpa using e2
      clear fin hP hR hA hsv hv hx
      go_upto_region 3 with (fail)
      go_quiet (fail)
      obtain ⟨W2, hW2⟩ : ∃ W, W1.drewN nq = W := ⟨_, rfl⟩
      have n2 : Nb W1 W2 := by rw [← hW2]; exact (Nb.refl W1).drewN nq
      rw [hW2]
      clear hW2
      replace bS := n2.block bS
      replace c0 := n2.cell c0
      replace c1 := n2.cell c1
      replace c2 := n2.cell c2
      have f0 := frozen_blk bS 0
      have f1 := frozen_blk bS 1
      have f2 := frozen_blk bS 2
      go_wp2_with fail
      refine bodyPost_ret (results_rt rfl _ _ S _ rfl (run_loadVar_row _ _ _ _ _ _ _ (set3_all' bS) Try.underlying24 rfl (by kernel_rfl))) rfl ?_
      exact hf.out _ n2 _ _ _ _ rfl
    · have hf := fin hP
      have t2 : decide (a < bs) = false := by simp; omega
      have hd0 : 0 ≤ a - bs := by omega
      have hd1 : a - bs < 18446744073709551616 := by omega
      have t3 : ((a - bs) % 8 != 0) = true := by simpa using e3
      have t4 : ((a - bs) % 8 == 0) = false := by simpa using e3
      clear fin hP hR hA hsv hv hx
      go_upto_region 3 with (fail)
      go_quiet (fail)
      obtain ⟨W2, hW2⟩ : ∃ W, W1.drewN nq = W := ⟨_, rfl⟩
      have n2 : Nb W1 W2 := by rw [← hW2]; exact (Nb.refl W1).drewN nq
      rw [hW2]
      clear hW2
      replace bS := n2.block bS
      replace c0 := n2.cell c0
      replace c1 := n2.cell c1
      replace c2 := n2.cell c2
      have f0 := frozen_blk bS 0
      have f1 := frozen_blk bS 1
      have f2 := frozen_blk bS 2
      go_wp2_with fail
      refine bodyPost_ret (results_rt rfl _ _ S _ rfl (run_loadVar_row _ _ _ _ _ _ _ (set3_all' bS) Try.underlying24 rfl (by kernel_rfl))) rfl ?_
      exact hf.out _ n2 _ _ _ _ rfl
    · have t2 : decide (a < bs) = false := by simp; omega
      have hd0 : 0 ≤ a - bs := by omega
      have hd1 : a - bs < 18446744073709551616 := by omega
      rcases hc with ⟨hP, e4⟩ | ⟨e4, m, hm, hm0, hm1, hc⟩
      · have t5 : decide ((n : Int) ≤ (p : Int)) = true := decide_eq_true (by omega)
        have hf := fin hP
        clear fin hP hR hA hsv hv hx
        go_upto_region 3 with (fail)
        go_quiet (fail)
        obtain ⟨W2, hW2⟩ : ∃ W, W1.drewN nq = W := ⟨_, rfl⟩
        have n2 : Nb W1 W2 := by rw [← hW2]; exact (Nb.refl W1).drewN nq
        rw [hW2]
        clear hW2
        replace bS := n2.block bS
        replace c0 := n2.cell c0
        replace c1 := n2.cell c1
        replace c2 := n2.cell c2
        replace r0 := n2.cell r0
        replace r1 := n2.cell r1
        have f0 := frozen_blk bS 0
        have f1 := frozen_blk bS 1
        have f2 := frozen_blk bS 2
        go_wp2_with fail
        all_goals
          refine bodyPost_ret (results_rt rfl _ _ S _ rfl (run_loadVar_row _ _ _ _ _ _ _ (set3_all' bS) Try.underlying24 rfl (by kernel_rfl))) rfl ?_
          exact hf.out _ n2 _ _ _ _ rfl
      · have t5 : decide ((n : Int) ≤ (p : Int)) = false := decide_eq_false (by omega)
        have e5 : (p : Int) < (n : Int) := by omega
        have hv2 := hv
        rw [hsv] at hv2
        obtain ⟨b, o, rfl, hr⟩ := hv2.at_ (i := p) (r := [.int .u64 m]) (by rw [List.getElem?_map, hm]; rfl)
        have ck := hr 0 _ rfl
        rw [Nat.mul_one, Nat.add_zero] at ck
        replace ck := (h1.nb).cell ck
        have hp2 := Lib.hid hp
        have hm2 := Lib.hid hm
        replace hx := Lib.hid hx
        have hv3 := Lib.hid hv2
        clear hv2 hr hv hA
        go_upto_region 3 with (fail)
        go_quiet (fail)
        clear hp
        obtain ⟨W2, hW2⟩ : ∃ W, W1.drewN nq = W := ⟨_, rfl⟩
        have n2 : Nb W1 W2 := by rw [← hW2]; exact (Nb.refl W1).drewN nq
        rw [hW2]
        clear hW2
        replace bS := n2.block bS
        replace c0 := n2.cell c0
        replace c1 := n2.cell c1
        replace c2 := n2.cell c2
        replace r0 := n2.cell r0
        replace r1 := n2.cell r1
        replace ck := n2.cell ck
        have f0 := frozen_blk bS 0
        have f1 := frozen_blk bS 1
        have f2 := frozen_blk bS 2
        go_upto_region 6 with (fail)
        rw [hp2.out]
        clear e1 e2 e3 t2 t5 hd0 hd1
        have hp9 : p ≤ 500 := by omega
        rcases hc with ⟨hP, e6⟩ | ⟨hP, e6⟩ | ⟨hP, e6, e7, e8⟩ | ⟨M, rfl, e6, e7, e8, hP⟩
        · have hf := fin hP
          clear fin hP hR hsv
          go_wp2_with fail
          all_goals
            refine bodyPost_ret (results_rt rfl _ _ S _ rfl (run_loadVar_row _ _ _ _ _ _ _ (set3_all' bS) Try.underlying24 rfl (by kernel_rfl))) rfl ?_
            exact hf.out _ n2 _ _ _ _ rfl
        · have e7 : ¬ m < 1 := by omega
          have hf := fin hP
          clear fin hP hR hsv
          go_wp2_with fail
          all_goals
            refine bodyPost_ret (results_rt rfl _ _ S _ rfl (run_loadVar_row _ _ _ _ _ _ _ (set3_all' bS) Try.underlying24 rfl (by kernel_rfl))) rfl ?_
            exact hf.out _ n2 _ _ _ _ rfl
        · have e9 : ¬ m < 1 := by omega
          have e10 : ¬ 4 < m := by omega
          have e11 : (n : Int) - (p : Int) - 1 < m := by omega
          have hf := fin hP
          clear fin hP hR hsv
          go_wp2_with fail
          all_goals
            refine bodyPost_ret (results_rt rfl _ _ S _ rfl (run_loadVar_row _ _ _ _ _ _ _ (set3_all' bS) Try.underlying24 rfl (by kernel_rfl))) rfl ?_
            exact hf.out _ n2 _ _ _ _ rfl
        · rw [hP] at hR
          replace hR : decL (decV xs bs k) ((xs.drop (p + 1)).take M) met [] = R := hR
          obtain ⟨ps, hps⟩ : ∃ ps, (xs.drop (p + 1)).take M = ps := ⟨_, rfl⟩
          rw [hps] at hR
          have hpl : ps.length = M := by rw [← hps]; simp; omega
          have hpx : ∀ x ∈ ps, 0 ≤ x ∧ x < 18446744073709551616 := fun x h => hx.out x (by rw [← hps] at h; exact List.mem_of_mem_drop (List.mem_of_mem_take h))
          have hps2 : ∀ (i : Nat) (q : Int), ps[i]? = some q → xs[p + (i + 1)]? = some q := fun i q h => by
            rw [← hps, List.getElem?_take] at h
            split at h
            · rw [List.getElem?_drop] at h
              rw [show p + (i + 1) = p + 1 + i by omega]
              exact h
            · cases h
          have e9 : ¬ (M : Int) < 1 := by omega
          have e10 : ¬ 4 < (M : Int) := by omega
          have e11 : ¬ (n : Int) - (p : Int) - 1 < (M : Int) := by omega
          replace hR := Lib.hid hR
          replace hpl := Lib.hid hpl
          replace hpx := Lib.hid hpx
          replace hps2 := Lib.hid hps2
          have h2 := h1.go n2
          have gw2 := gw.trans (Gb.of_nb n2)
          clear fin hP hps hm hm0 hm1 hp2 hm2 bM h1 gw n1 n2 hx hw
          go_upto_region 10 with (fail)
          obtain ⟨W3, hW3⟩ : ∃ W, W2.alloc (Obj.cells #[.int .i64 4, .int .i64 0, .slice none 0 0] 24) = W := ⟨_, rfl⟩
          have n3 : Nb W2 W3 := by rw [← hW3]; exact (Nb.refl W2).alloc _
          have bV : W3.heap[W2.heap.size]? = some (.cells #[.int .i64 4, .int .i64 0, .slice none 0 0] 24 (0, 0)) := by rw [← hW3]; exact new_blk _ _ rfl
          rw [hW3]
          clear hW3
          have hS2 := lt_blk bS
          obtain ⟨V, hV⟩ : ∃ V, W2.heap.size = V := ⟨_, rfl⟩
          rw [hV] at bV hS2 ⊢
          clear hV
          subst hsv
          have hT0 : TL W0 rd (.slice (some ⟨b, o, none⟩) n c) bs k xs ps R w S V 0 [] met [] (.slice none 0 0) W3 := ⟨h2.go n3, hmet, by rw [List.drop_zero]; exact hR.out, rfl, World.ownsRow_nil _ _ _ _, fun i x hx => by simp at hx, fun x hx => by simp at hx, gw2.trans (Gb.of_nb n3), n3.block bS, bV⟩
          replace hT0 := Lib.hid hT0
          obtain ⟨i0, hi, hz0, hz1, hz2⟩ := partsA
          clear bV bS n3 gw2 h2 c0 c1 c2 f0 f1 f2 r0 r1 ck hR e5
          go_wp2_with fail
          go_loopw [11] (fun si wr => ∃ (i : Nat) (acc : List Vl) (m : Nat) (X : List Value) (av : Value), i ≤ M ∧ si = .int .i64 ((i : Int) + 1) ∧ Hid (TL W0 rd (.slice (some ⟨b, o, none⟩) n c) bs k xs ps R w S V i acc m X av wr)) (fun si _ => M + 1 - (intOf si).toNat)
          case atStart => exact ⟨0, [], met, [], _, Nat.zero_le _, rfl, hT0⟩
          case round =>
            obtain ⟨i, acc, m, X, av, hii, rfl, hD⟩ := hrel
            clear hT0
            by_cases hlt : i < M
            · have hlt2 : (i : Int) + 1 ≤ (M : Int) := by omega
              obtain ⟨q, hq⟩ : ∃ q, ps[i]? = some q := ⟨_, List.getElem?_eq_getElem (by rw [hpl.out]; exact hlt)⟩
              have hqr := hpx.out q (List.mem_of_getElem? hq)
              obtain ⟨b', o', hbo, hqc⟩ := hv3.out.at_ (i := p + (i + 1)) (r := [.int .u64 q]) (by rw [List.getElem?_map, hps2.out i q hq]; rfl)
              simp only [Option.some.injEq, Addr.mk.injEq, and_true] at hbo
              obtain ⟨rfl, rfl⟩ := hbo
              have cq := hD.out.hat.nb.cell (hqc 0 _ rfl)
              rw [Nat.mul_one, Nat.add_zero] at cq
              have r0 := cell_of_row _ _ 0 _ _ _ hD.out.hat.box
              have hcall := rval_of W0 rd (.slice (some ⟨b, o, none⟩) n c) xs bs k q hqr.1 hqr.2 m hD.out.hm wr hD.out.hat (fun ht hm4 w' hw' => ih (by omega) (q - 1) (by omega) (by omega) (m + 1) hm4 w' hw')
              have hstep := hD.out.step
              rw [drop_some hq, decL] at hstep
              obtain ⟨Rq, hRq⟩ : ∃ Rq, decV xs bs k q m = Rq := ⟨_, rfl⟩
              have hmet2 := decV_met xs bs k q m
              rw [hRq] at hcall hstep hmet2
              obtain ⟨m2, rs⟩ := Rq
              have e12 : (p : Int) + ((i : Int) + 1) < (n : Int) := by omega
              cases rs with
              | bad e =>
                replace hstep : (m2, Rs.bad e) = R := hstep
                subst hstep
                replace hcall : Hid (Calls Try.prog 41 #[.pointer (some ⟨rd, 0, none⟩), .int .u64 q, .int .i64 (k : Int)] wr (fun r w' => ∃ (he : e ≠ 0), r = .returned (.tuple #[.agg #[.int .i64 0, .int .i64 0, .slice none 0 0], .int .i64 e]) ∧ Gb rd wr w' ∧ w'.heap[rd]? = some (.cells #[.slice (some ⟨b, o, none⟩) n c, .int .u64 bs, .int .i64 (m2 : Int)] 66 (0, 0)))) := Lib.hid (hcall.mono fun r w' h => ⟨h.2.2.1, h.2.2.2, h.1, h.2.1⟩)
                clear hRq hmet2 hqc hq ih
                go_upto_region 14 with (go_at_call 41; refine (hcall.out).mono ?_; rintro r w6 ⟨he, rfl, g6, bM6⟩)
                have he2 : (e == 0) = false := by simpa using he
                have he3 : (e != 0) = true := by simpa using he
                obtain ⟨W7, hW7⟩ : ∃ W7, w6.alloc (Obj.cells #[.int .i64 0, .int .i64 0, .slice none 0 0] 24) = W7 := ⟨_, rfl⟩
                have n67 : Nb w6 W7 := by rw [← hW7]; exact (Nb.refl w6).alloc _
                rw [hW7]
                clear hW7
                have bS7 := n67.block (g6.block hD.out.bS (Ne.symm hmS))
                have g7 := (hD.out.gb.trans g6).trans (Gb.of_nb n67)
                have bM7 := n67.block bM6
                have c0 := cell_of_row _ _ 0 _ _ _ bS7
                have c1 := cell_of_row _ _ 1 _ _ _ bS7
                have c2 := cell_of_row _ _ 2 _ _ _ bS7
                have f0 := frozen_blk bS7 0
                have f1 := frozen_blk bS7 1
                have f2 := frozen_blk bS7 2
                clear g6 bM6 n67 hD cq r0 hcall
                go_wp2_with fail
                refine bodyPost_ret (results_rt rfl _ _ S _ rfl (run_loadVar_row _ _ _ _ _ _ _ (set3_all' bS7) Try.underlying24 rfl (by kernel_rfl))) rfl ?_
                exact .no g7 bM7 hSw hmS he _ _ _ rfl
              | good pq =>
                replace hstep : decL (decV xs bs k) (ps.drop (i + 1)) m2 (acc.map Vl.sh ++ [pq]) = R := hstep
                have hm2 : m2 ≤ 4096 := hmet2 m2 pq hD.out.hm rfl
                replace hcall := Lib.hid (hcall.mono fun r w' h => RAns.open h)
                replace hstep := Lib.hid hstep
                clear hRq hmet2 hqc hq ih
                go_upto_region 14 with (go_at_call 41; refine (hcall.out).mono ?_; rintro r w6 ⟨kd, nn, A', L', c', l, rfl, g6, bM6, hv6⟩)
                obtain ⟨W7, hW7⟩ : ∃ W7, w6.alloc (Obj.cells #[.int .i64 kd, .int .i64 nn, .slice A' L' c'] 24) = W7 := ⟨_, rfl⟩
                have n67 : Nb w6 W7 := by rw [← hW7]; exact (Nb.refl w6).alloc _
                have bJ : W7.heap[w6.heap.size]? = some (.cells #[.int .i64 kd, .int .i64 nn, .slice A' L' c'] 24 (0, 0)) := by rw [← hW7]; exact new_blk _ _ rfl
                rw [hW7]
                clear hW7
                obtain ⟨J, hJ⟩ : ∃ J, w6.heap.size = J := ⟨_, rfl⟩
                rw [hJ] at bJ ⊢
                clear hJ
                have g7 := g6.trans (Gb.of_nb n67)
                have bM7 := n67.block bM6
                have bV7 := g7.block hD.out.bV (by omega)
                have own7 := own_gb' hD.out.own g7 (by omega)
                obtain ⟨B, cB, rfl⟩ := own_lit own7
                have v2 := cell_of_row _ _ 2 _ _ _ bV7
                have j0 := cell_of_row _ _ 0 _ _ _ bJ
                have j1 := cell_of_row _ _ 1 _ _ _ bJ
                have j2 := cell_of_row _ _ 2 _ _ _ bJ
                have hVs := lt_blk bV7
                have n78 : Nb W7 (W7.alloc (Obj.cells #[.int .i64 kd, .int .i64 nn, .slice A' L' c'] 24)) := (Nb.refl W7).alloc _
                obtain ⟨g', c'', w9, hrun, hown9, hg9, hwh⟩ := append_where (P := Try.prog) (W7.alloc (Obj.cells #[.int .i64 kd, .int .i64 nn, .slice A' L' c'] 24)) (V + 1) 22 22 24 i0 (.agg #[.int .i64 0, .int .i64 0, .slice none 0 0]) 3 40 Try.underlying22 hi hz0 hz1 hz2 rfl (by decide) (.slice B i cB) i X (own7.alloc _) ⟨W7.heap.size, 0, none⟩ 1 1 (by decide) [.int .i64 kd, .int .i64 nn, .slice A' L' c'] rfl (newsV W7 _ _ _) (one_cellV _ _ _ _ _) (by unfold maxLen; omega) (by omega) (by have := n78.size; omega)
                replace hrun := Lib.hid hrun
                have hlast := Lib.hid (hD.out.next hm2 (v := Vl.mk kd nn (.slice A' L' c') l) (by rw [hv6.out.1]; exact hstep.out) (g7.trans (Gb.of_nb n78)) (n78.block bM7) (keeps_nb (n67.trans n78) hv6.out.2.1 hv6.out.2.2).1 (keeps_nb (n67.trans n78) hv6.out.2.1 hv6.out.2.2).2 hS2 hSw hrS hown9 hg9 hwh)
                have bV9 := (World.grownBy.block hg9 V (lt_blk (n78.block bV7)) (fun e => by have := (own7.lt V e.symm).1; omega)).trans (n78.block bV7)
                have v9 := frozen_blk bV9 2
                have v92 := cell_of_row _ _ 2 _ _ _ bV9
                clear g6 bM6 n67 hD cq r0 hcall own7 hv6 hstep bV7 bJ hown9 hg9 bV9 n78 g7 bM7
                go_wp2_with (at_builtin; refine Lib.wpList_append_run _ rfl (.tmp 118) (.tmp 120) 22 22 rfl (.slice B i cB) (.slice (some ⟨W7.heap.size, 0, none⟩) 1 1) rfl rfl _ _ hrun.out ?_)
                exact ⟨⟨i + 1, _, m2, _, _, by omega, by rw [show ((i + 1 : Nat) : Int) = (i : Int) + 1 by omega], hlast⟩, by show M + 1 - ((i : Int) + 1 + 1).toNat < M + 1 - ((i : Int) + 1).toNat; omega⟩
            · obtain rfl : i = M := by omega
              have bS7 := hD.out.bS
              have bV7 := hD.out.bV
              obtain ⟨B, cB, rfl⟩ := own_lit hD.out.own
              have v0 := cell_of_row _ _ 0 _ _ _ bV7
              have v1 := cell_of_row _ _ 1 _ _ _ bV7
              have v2 := cell_of_row _ _ 2 _ _ _ bV7
              have c0 := cell_of_row _ _ 0 _ _ _ bS7
              have c1 := cell_of_row _ _ 1 _ _ _ bS7
              have c2 := cell_of_row _ _ 2 _ _ _ bS7
              have f0 := frozen_blk bS7 0
              have f1 := frozen_blk bS7 1
              have f2 := frozen_blk bS7 2
              have hlt2 : ¬ (i : Int) + 1 ≤ (i : Int) := by omega
              go_wp2_with fail
              refine bodyPost_ret (results_rt rfl _ _ S _ rfl (run_loadVar_row _ _ _ _ _ _ _ (set3_all' bS7) Try.underlying24 rfl (by kernel_rfl))) rfl ?_
              exact hD.out.done hpl.out e6 e7 hSw hmS hS2 rfl _ _ _
end Go.Proofs.Ytmoggaecnjcjfaa
