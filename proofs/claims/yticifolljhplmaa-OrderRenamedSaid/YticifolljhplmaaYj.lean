/-
  Proved here: passedOn of the code: whether an operation returns a byte by a store between that hangs on the first. Conditions: the pointers point at operations; there are at most a million between.
-/
import Derived.Maps.OwnIn
import Derived.Maps.Views
import Derived.Test.YticifolljhplmaaYi
namespace Go.Proofs.Yticifolljhplmaa
open Go.RowKit Go.Sort Go.Shelf
set_option linter.unusedVariables false
set_option linter.unusedSimpArgs false
set_option maxRecDepth 100000
set_option maxHeartbeats 4000000
def hangB (a m : OpD) : Bool := m.store && (hasI m.addrs a.id || hasI m.datas a.id)
def hangS (a : OpD) (l : List OpD) : List Int := (l.filter (hangB a)).map (·.id)
def passedB (a b : OpD) (l : List OpD) : Bool := (idsS b).any (fun x => hasI (hangS a l) x)
theorem hangS_next {a m : OpD} {l : List OpD} {k : Nat} (h : l[k]? = some m) : hangS a (l.take (k + 1)) = if hangB a m = true then hangS a (l.take k) ++ [m.id] else hangS a (l.take k) := by
  unfold hangS
  rw [List.take_add_one, h]
  simp only [Option.toList, List.filter_append, List.map_append, List.filter_cons, List.filter_nil]
  split <;> simp
theorem lit_wf (x : Int) (h : -9223372036854775808 ≤ x) (k : x < 9223372036854775808) : (Lit.int .i64 x).wf = true := by
  simp [Lit.wf, IntKind.min, IntKind.max, IntKind.bits, IntKind.signed]
  omega
theorem int_keyed3 : Maps.Keyed Try.prog 3 := Maps.int_keyed Try.underlying3
/-- Between two rounds of the first loop. -/
structure PassI (w : World) (ab ao bb bo : Nat) (v : Value) (a : OpD) (l : List OpD) (k : Nat) (wr : World) : Prop where
  nb : Nb w wr
  p0 : wr.heap[w.heap.size]? = some (.cells #[.pointer (some ⟨ab, ao, none⟩), .pointer (some ⟨bb, bo, none⟩), v] 67 (0, 0))
  p1 : wr.heap[w.heap.size + 1]? = some (.cells #[.bool false] 4 (0, 0))
  p3 : wr.heap[w.heap.size + 1 + 1 + 1]? = some (.cells #[.map (some (w.heap.size + 1 + 1))] 55 (0, 0))
  mp : ∃ D : DataW Unit, wr.ownsMap Try.prog 3 (plainElem Try.prog 3) (w.heap.size + 1 + 1) k D ∧ Maps.IsMap D ∧ ∀ x, -9223372036854775808 ≤ x → x < 9223372036854775808 → Maps.has D (.int .i64 x) = hasI (hangS a (l.take k)) x
theorem PassI.cells {w : World} {ab ao bb bo : Nat} {v : Value} {a : OpD} {l : List OpD} {k : Nat} {wr : World} (h : PassI w ab ao bb bo v a l k wr) :
    wr.cell? ⟨w.heap.size, 0, none⟩ = some (.pointer (some ⟨ab, ao, none⟩)) ∧ wr.cell? ⟨w.heap.size, 1, none⟩ = some (.pointer (some ⟨bb, bo, none⟩)) ∧ wr.cell? ⟨w.heap.size, 2, none⟩ = some v ∧ wr.cell? ⟨w.heap.size + 1 + 1 + 1, 0, none⟩ = some (.map (some (w.heap.size + 1 + 1))) :=
  ⟨cell_of_row _ _ 0 _ _ _ h.p0, cell_of_row _ _ 1 _ _ _ h.p0, cell_of_row _ _ 2 _ _ _ h.p0, cell_of_row _ _ 0 _ _ _ h.p3⟩
theorem grown_of_nb {a b : World} (h : Nb a b) : a.grownBy b none := ⟨h.os, h.tape, h.output, h.size, fun k hk _ => Below.block h k hk⟩
theorem PassI.grow {w : World} {ab ao bb bo : Nat} {v : Value} {a : OpD} {l : List OpD} {k : Nat} {wr wr' : World} (h : PassI w ab ao bb bo v a l k wr) (g : Nb wr wr') : PassI w ab ao bb bo v a l k wr' := by
  obtain ⟨D, h1, h2, h3⟩ := h.mp
  exact ⟨h.nb.trans g, g.block h.p0, g.block h.p1, g.block h.p3, D, h1.kept (grown_of_nb g) (by simp), h2, h3⟩
theorem PassI.skip {w : World} {ab ao bb bo : Nat} {v : Value} {a m : OpD} {l : List OpD} {k : Nat} {wr : World} (h : PassI w ab ao bb bo v a l k wr) (hm : l[k]? = some m) (hh : hangB a m = false) : PassI w ab ao bb bo v a l (k + 1) wr := by
  obtain ⟨D, h1, h2, h3⟩ := h.mp
  refine ⟨h.nb, h.p0, h.p1, h.p3, D, h1.mono (Nat.le_succ _), h2, ?_⟩
  rw [hangS_next hm, hh]
  exact h3
theorem PassI.put {w : World} {ab ao bb bo : Nat} {v : Value} {a m : OpD} {l : List OpD} {k : Nat} {wr wr' : World} {D : DataW Unit} {d : DataW Unit} (h : PassI w ab ao bb bo v a l k wr) (hm : l[k]? = some m) (ok : m.Ok) (hh : hangB a m = true)
    (h2 : Maps.IsMap D) (h3 : ∀ x, -9223372036854775808 ≤ x → x < 9223372036854775808 → Maps.has D (.int .i64 x) = hasI (hangS a (l.take k)) x)
    (h1 : wr'.ownsMap Try.prog 3 (plainElem Try.prog 3) (w.heap.size + 1 + 1) (k + 1) (D.put (.int .i64 m.id) d)) (hg : wr.grownBy wr' (some (w.heap.size + 1 + 1))) : PassI w ab ao bb bo v a l (k + 1) wr' := by
  have hlt := lt_blk h.p3
  refine ⟨⟨hg.os.trans h.nb.os, hg.tape.trans h.nb.tape, hg.output.trans h.nb.output, Nat.le_trans h.nb.size hg.size, fun j hj => (hg.block j (by have := h.nb.size; omega) (by intro e; cases e; omega)).trans (Below.block h.nb j hj)⟩,
    (hg.block _ (by omega) (by intro e; injection e; omega)).trans h.p0, (hg.block _ (by omega) (by intro e; injection e; omega)).trans h.p1, (hg.block _ hlt (by intro e; injection e; omega)).trans h.p3, _, h1, ?_, ?_⟩
  · obtain ⟨es, clock, -, -, -, hD⟩ := h1
    exact ⟨_, hD⟩
  · intro x x0 x1
    rw [hangS_next hm, hh, if_pos rfl]
    by_cases e : x = m.id
    · subst e
      rw [Maps.has_put_same (k := .int .i64 m.id) h2 trivial]
      unfold hasI
      simp
    · rw [Maps.has_put_other (by intro q; injection q; contradiction), h3 x x0 x1]
      unfold hasI
      simp [e]
attribute [local go_sem] Oper.semAt_some
theorem PassI.grown {w : World} {ab ao bb bo : Nat} {v : Value} {a : OpD} {l : List OpD} {k : Nat} {wr wr' : World} {row : Option Nat} (h : PassI w ab ao bb bo v a l k wr) (hg : wr.grownBy wr' row) (hr : ∀ r, row = some r → w.heap.size + 1 + 1 + 1 < r) : PassI w ab ao bb bo v a l k wr' := by
  obtain ⟨D, h1, h2, h3⟩ := h.mp
  have hlt := lt_blk h.p3
  have hne : ∀ j, j ≤ w.heap.size + 1 + 1 + 1 → some j ≠ row := fun j hj e => by have := hr j e.symm; omega
  exact ⟨⟨hg.os.trans h.nb.os, hg.tape.trans h.nb.tape, hg.output.trans h.nb.output, Nat.le_trans h.nb.size hg.size, fun j hj => (hg.block j (by omega) (hne j (by omega))).trans (Below.block h.nb j hj)⟩,
    (hg.block _ (by omega) (hne _ (by omega))).trans h.p0, (hg.block _ (by omega) (hne _ (by omega))).trans h.p1, (hg.block _ hlt (hne _ (by omega))).trans h.p3, D, h1.kept hg (hne _ (by omega)), h2, h3⟩
theorem passedOn_any (ab ao bb bo : Nat) (v : Value) (a b : OpD) (l : List OpD) (w : World) (ha : OpAt w ab ao a) (hb : OpAt w bb bo b) (hl : OpsR w v l) (hn : l.length ≤ 1000000) (hs : ∀ m ∈ l, m.addrs.length ≤ 4611686018427387904 ∧ m.datas.length ≤ 4611686018427387904) :
    Calls Try.prog 56 #[pairV ab ao bb bo v] w fun e w' => e = .returned (.bool (passedB a b l)) ∧ Nb w w' := by
  obtain ⟨p, c, rfl, hX⟩ := hl.cases
  have hmm := @run_makeMap Try.prog
  obtain ⟨n, hn'⟩ : ∃ n, l.length = n := ⟨_, rfl⟩
  rw [hn'] at hn
  unfold pairV
  rw [hn']
  replace hn' := Lib.hid hn'
  have hX' := Lib.hid hX
  have hA := Lib.hid ha
  have hB := Lib.hid hb
  have hs' := Lib.hid hs
  clear ha hb hl hX hs
  obtain ⟨N, hN⟩ : ∃ N : Nat, N = 5 := ⟨_, rfl⟩
  have h1 : 1 ≤ N := by omega
  refine (callsIn_wide (n := N)).1 ?_
  refine callsIn_of_wp_marks Try.func56 rfl trivial ?_ rfl
  simp only [Try.ntmps56, List.size_toArray, List.length_cons, List.length_nil, Nat.reduceAdd, Nat.reduceSub, Array.replicate_succ, Array.replicate_zero, List.push_toArray, List.append_toArray, List.nil_append, List.cons_append]
  refine wpIn_wide.2 ?_
  go_upto_region 2 with (fail)
  obtain ⟨W0, hW⟩ : ∃ W0, (((w.alloc (.cells #[.pointer (some ⟨ab, ao, none⟩), .pointer (some ⟨bb, bo, none⟩), .slice p n c] 67)).alloc (.cells #[.bool false] 4)).alloc (.map #[] 0)).alloc (.cells #[.map (some (w.heap.size + 1 + 1))] 55) = W0 := ⟨_, rfl⟩
  have hI : PassI w ab ao bb bo (.slice p n c) a l 0 W0 := by
    rw [← hW]
    refine ⟨((((Nb.refl w).alloc _).alloc _).alloc _).alloc _, old_blk (old_blk (old_blk (new_blk w _ rfl) _) _) _, old_blk (old_blk (new_blk _ _ (by simp)) _) _, new_blk _ _ (by simp), .map [], ?_, ⟨_, rfl⟩, fun x _ _ => rfl⟩
    have h := World.ownsMap_made (H := Unit) ((w.alloc (.cells #[.pointer (some ⟨ab, ao, none⟩), .pointer (some ⟨bb, bo, none⟩), .slice p n c] 67)).alloc (.cells #[.bool false] 4)) Try.prog 3 (plainElem Try.prog 3)
    simp only [World.size_alloc] at h
    exact h.alloc _
  rw [hW]
  clear hW
  obtain ⟨q0, q1, q2, q3⟩ := hI.cells
  go_wp2_with fail
  clear q0 q1 q2 q3 hmm
  have hI' := Lib.hid hI
  clear hI
  go_loopw [13] (fun i wr => ∃ k : Nat, k ≤ n ∧ i = .int .i64 k ∧ Hid (PassI w ab ao bb bo (.slice p n c) a l k wr)) (fun i _ => n - (intOf i).toNat)
  case atStart => exact ⟨0, Nat.zero_le _, rfl, hI'⟩
  case round =>
    clear hI'
    obtain ⟨k, hk, rfl, hI⟩ := hrel
    obtain ⟨q0, q1, q2, q3⟩ := hI.out.cells
    by_cases hlt : k < n
    · obtain ⟨eb, eo, m, rfl, hm, hO, hcap⟩ := hX'.out k (by rw [hn'.out]; exact hlt)
      have hm' := Lib.hid hm
      have hms := hs'.out m (List.mem_of_getElem? hm)
      clear hm
      have hcap' : k < c := by have := hn'.out; omega
      have hO' := hO.nb hI.out.nb
      have hO2 := Lib.hid hO'
      have hok := Lib.hid hO.ok
      obtain ⟨-, o0, -, o2, -, -, -, -, -, -, -, -, -, -, -, o14, o15, -⟩ := hO'
      have hv := Lib.hid (show hangB a m = (m.store && (hasI m.addrs a.id || hasI m.datas a.id)) from rfl)
      have hOA : ∀ u : Value, u = m.av → ∀ (d : Nat) (os : Array Obj), Calls Try.prog 55 #[.agg #[.pointer (some ⟨ab, ao, none⟩), .pointer (some ⟨bb, bo, none⟩), .slice (some ⟨eb, eo, none⟩) n c], u] (grow (redrawn wr d) os) fun e w' => e = .returned (.bool (hasI m.addrs a.id)) ∧ Nb (grow (redrawn wr d) os) w' := by
        intro u e d os
        subst e
        exact onA_any ab ao bb bo _ a _ m.addrs (grow (redrawn wr d) os) (hA.out.nb (hI.out.nb.trans (below_regrown wr d os))) (hO2.out.ra.nb (below_regrown wr d os)) hms.1 rfl
      have hOB : ∀ u : Value, u = m.dv → ∀ (d : Nat) (os : Array Obj), Calls Try.prog 55 #[.agg #[.pointer (some ⟨ab, ao, none⟩), .pointer (some ⟨bb, bo, none⟩), .slice (some ⟨eb, eo, none⟩) n c], u] (grow (redrawn wr d) os) fun e w' => e = .returned (.bool (hasI m.datas a.id)) ∧ Nb (grow (redrawn wr d) os) w' := by
        intro u e d os
        subst e
        exact onA_any ab ao bb bo _ a _ m.datas (grow (redrawn wr d) os) (hA.out.nb (hI.out.nb.trans (below_regrown wr d os))) (hO2.out.rd.nb (below_regrown wr d os)) hms.2 rfl
      have hOA' := Lib.hid hOA
      have hOB' := Lib.hid hOB
      clear hOA hOB hO
      generalize m.store = f at *
      generalize m.av = av at *
      generalize m.dv = dv at *
      generalize hasI m.addrs a.id = r at *
      generalize hasI m.datas a.id = r2 at *
      have e1 : IntKind.i64.wrap ((k : Int) + 1) = (k : Int) + 1 := by rw [IntKind.wrap_i64]; omega
      cases f with
      | false =>
        replace hv := Lib.hid (show hangB a m = false by rw [hv.out]; rfl)
        go_upto_region 6 with (fail)
        go_quiet (fail)
        go_wp2_with fail
        go_roundw
        case rel => exact ⟨k + 1, hlt, by simp, Lib.hid ((hI.out.grow ((Nb.refl wr).drewN nq)).skip hm'.out hv.out)⟩
        case measure => simp [intOf]; omega
      | true =>
        go_upto_region 6 with (fail)
        have d2 := cell_regrown o2
        have d14 := cell_regrown o14
        have d15 := cell_regrown o15
        have d0 := cell_regrown q0
        have d1 := cell_regrown q1
        have d3 := cell_regrown q2
        cases r with
        | true =>
          replace hv := Lib.hid (show hangB a m = true by rw [hv.out]; rfl)
          refine wp_region_quiet_below (by kernel_rfl) (by kernel_rfl) ?_
          repeat (quiet_step ((go_at_call 55; first | (refine regrown_nb (hOA'.out _ ?_ _ _); exact rfl) | (refine regrown_nb (hOB'.out _ ?_ _ _); exact rfl))))
          refine wpQuiet_nil ?_
          intro x4 hw'
          obtain ⟨⟨dq, osq⟩, hw''⟩ := hw'
          have hg : Nb wr x4 := by rw [hw'']; exact below_regrown wr dq osq
          clear hw'' d2 d14 d15 d0 d1 d3 hOA' hOB' q0 q1 q2 q3
          have hI4 := hI.out.grow hg
          obtain ⟨q0, q1, q2, q3⟩ := hI4.cells
          have i0 := (hO2.out.nb hg).c0
          have hI4' := Lib.hid hI4
          obtain ⟨D, hm1, hm2, hm3⟩ := hI4.mp
          clear hI4
          have hmr := hm1.drew
          have hm2' := Lib.hid hm2
          have hm3' := Lib.hid hm3
          have hnM : k < maxLen := Nat.lt_of_lt_of_le (by omega : k < 1000001) (by decide)
          obtain ⟨w5, hrun, u1, u2⟩ := hmr.update int_keyed3 Try.underlying55 hnM (Maps.keyOf_int_mk Try.underlying3 (lit_wf m.id hok.out.i0 hok.out.i1)) (plainElem_int Try.underlying3 (lit_wf (k : Int) (by omega) (by omega)))
          clear hm1 hm2 hm3 hmr
          go_wp2_with fail
          go_region
          go_wp2_with fail
          go_roundw
          case rel => exact ⟨k + 1, hlt, by simp, Lib.hid ((hI4'.out.grow ((Nb.refl x4).drewN 1)).put hm'.out hok.out hv.out hm2'.out hm3'.out u1 u2)⟩
          case measure => simp [intOf]; omega
        | false =>
          cases r2 with
          | true =>
            replace hv := Lib.hid (show hangB a m = true by rw [hv.out]; rfl)
            refine wp_region_quiet_below (by kernel_rfl) (by kernel_rfl) ?_
            repeat (quiet_step ((go_at_call 55; first | (refine regrown_nb (hOA'.out _ ?_ _ _); exact rfl) | (refine regrown_nb (hOB'.out _ ?_ _ _); exact rfl))))
            refine wpQuiet_nil ?_
            intro x4 hw'
            obtain ⟨⟨dq, osq⟩, hw''⟩ := hw'
            have hg : Nb wr x4 := by rw [hw'']; exact below_regrown wr dq osq
            clear hw'' d2 d14 d15 d0 d1 d3 hOA' hOB' q0 q1 q2 q3
            have hI4 := hI.out.grow hg
            obtain ⟨q0, q1, q2, q3⟩ := hI4.cells
            have i0 := (hO2.out.nb hg).c0
            have hI4' := Lib.hid hI4
            obtain ⟨D, hm1, hm2, hm3⟩ := hI4.mp
            clear hI4
            have hmr := hm1.drew
            have hm2' := Lib.hid hm2
            have hm3' := Lib.hid hm3
            have hnM : k < maxLen := Nat.lt_of_lt_of_le (by omega : k < 1000001) (by decide)
            obtain ⟨w5, hrun, u1, u2⟩ := hmr.update int_keyed3 Try.underlying55 hnM (Maps.keyOf_int_mk Try.underlying3 (lit_wf m.id hok.out.i0 hok.out.i1)) (plainElem_int Try.underlying3 (lit_wf (k : Int) (by omega) (by omega)))
            clear hm1 hm2 hm3 hmr
            go_wp2_with fail
            go_region
            go_wp2_with fail
            go_roundw
            case rel => exact ⟨k + 1, hlt, by simp, Lib.hid ((hI4'.out.grow ((Nb.refl x4).drewN 1)).put hm'.out hok.out hv.out hm2'.out hm3'.out u1 u2)⟩
            case measure => simp [intOf]; omega
          | false =>
            replace hv := Lib.hid (show hangB a m = false by rw [hv.out]; rfl)
            refine wp_region_quiet_below (by kernel_rfl) (by kernel_rfl) ?_
            repeat (quiet_step ((go_at_call 55; first | (refine regrown_nb (hOA'.out _ ?_ _ _); exact rfl) | (refine regrown_nb (hOB'.out _ ?_ _ _); exact rfl))))
            refine wpQuiet_nil ?_
            intro x4 hw'
            obtain ⟨⟨dq, osq⟩, hw''⟩ := hw'
            have hg : Nb wr x4 := by rw [hw'']; exact below_regrown wr dq osq
            clear hw'' d2 d14 d15 d0 d1 d3 hOA' hOB' q0 q1 q2 q3
            have hI4 := hI.out.grow hg
            have hI4' := Lib.hid hI4
            clear hI4
            go_wp2_with fail
            go_roundw
            case rel => exact ⟨k + 1, hlt, by simp, Lib.hid (hI4'.out.skip hm'.out hv.out)⟩
            case measure => simp [intOf]; omega
    · obtain rfl : k = n := by omega
      go_wp2_with fail
      refine (returned_any bb bo wr).mono ?_
      rintro e w6 ⟨rfl, rfl⟩
      go_wp2_with fail
      refine (wpIn_wide (n := N)).1 ?_
      have n7 : Nb wr (wr.alloc (.cells #[.pointer (some ⟨bb, bo, none⟩)] 56)) := (Nb.refl wr).alloc _
      obtain ⟨W7, e7⟩ : ∃ W7, wr.alloc (.cells #[.pointer (some ⟨bb, bo, none⟩)] 56) = W7 := ⟨_, rfl⟩
      have b7 : W7.cell? ⟨wr.heap.size, 0, none⟩ = some (.pointer (some ⟨bb, bo, none⟩)) := by rw [← e7]; exact cell_of_row _ _ 0 _ _ _ (new_blk wr _ rfl)
      have hsz : wr.heap.size < W7.heap.size := by rw [← e7]; simp
      rw [e7] at n7 ⊢
      clear e7
      have hI7 := hI.out.grow n7
      have hz7 := lt_blk hI7.p3
      have hz8 := lt_blk hI.out.p3
      have hB7 := hB.out.nb hI7.nb
      have hkw := hn'.out
      have hI7' := Lib.hid hI7
      clear hI q0 q1 q2 q3
      apply wpIn_rangeFunc_ownF rfl h1 (gf := 65) (lb := #[.pointer (some ⟨wr.heap.size, 0, none⟩)]) rfl trivial (enters_of Try.func65 (by kernel_rfl) rfl)
        (returned_stops (N - 1) (by omega) wr.heap.size w.heap.size bb bo b W7 b7 hB7 (fun p len cap e hz => by
          rcases hB.out.rf with ⟨⟨p2, c2, e2⟩, _⟩ | ⟨fb, fo, fc, e2, hlt, _⟩
          · rw [e2] at e; cases e; omega
          · rw [e2] at e; cases e; exact hlt) (by omega)) belowK_t (belowK_b (by omega)) (Below.refl _ _) (fun _ => rfl)
        (fun (pre : List I64) W => (∀ y ∈ pre, hasI (hangS a l) y.1 = false) ∧ PassI w ab ao bb bo (.slice p k c) a l k W)
        (fun cd (pre : List I64) W => cd = .ret ∧ (∃ y ∈ pre, hasI (hangS a l) y.1 = true) ∧ W.heap[w.heap.size + 1]? = some (.cells #[.bool true] 4 (0, 0)) ∧ Nb w W)
        (fun s A B row hs hg hr => ⟨hs.1, hs.2.grown hg (fun r e => by have := (hr r e).1; omega)⟩)
        (fun cd s A B row hs hg hr => ⟨hs.1, hs.2.1, (hg.block _ (lt_blk hs.2.2.1) (by intro e; have := (hr _ e.symm).1; omega)).trans hs.2.2.1,
          ⟨hg.os.trans hs.2.2.2.os, hg.tape.trans hs.2.2.2.tape, hg.output.trans hs.2.2.2.output, Nat.le_trans hs.2.2.2.size hg.size, fun j hj => (hg.block j (by have := hs.2.2.2.size; omega) (by intro e; have := (hr j e.symm).1; omega)).trans (Below.block hs.2.2.2 j hj)⟩⟩)
        ⟨by simp, hI7⟩
      case hassign =>
        intro l x W K hK
        gi_wp2
        exact hK
      case hbody =>
        rintro l0 pre x W ⟨hpre, hP⟩ _
        obtain ⟨q0, q1, q2, q3⟩ := hP.cells
        obtain ⟨D, hm1, hm2, hm3⟩ := hP.mp
        have hb1 := Lib.hid hP.p1
        have hnb := Lib.hid hP.nb
        have hP' := Lib.hid hP
        have hx3 := Lib.hid (hm3 x.1 x.2.1 x.2.2)
        have hall : l.take k = l := by rw [← hkw, List.take_length]
        have hall' := Lib.hid hall
        have hwf := Lib.hid (lit_wf x.1 x.2.1 x.2.2)
        have hpre' := Lib.hid hpre
        have f1 := frozen_blk hP.p1 0
        have c1 : W.cell? ⟨w.heap.size + 1, 0, none⟩ = some (.bool false) := cell_of_row _ _ 0 _ _ _ hP.p1
        clear hP hm3 hall hpre hm2
        cases hy : hasI (hangS a l) x.1 with
        | true =>
          have hh : Maps.has D (.int .i64 x.1) = true := by rw [hx3.out, hall'.out, hy]
          gi_wp2_with (gi_at_lookup; refine wpListIn_lookup_own_ok_int _ rfl _ _ 55 rfl 3 3 .i64 int_keyed3 Try.underlying55 Try.underlying3 (Try.zeroValue3 _) _ k D rfl hm1 _ _ rfl (Maps.keyOf_int_mk Try.underlying3 hwf.out) ?_; intro cc hat hwc; rw [hh])
          refine ⟨KeepsOthers.setCell _ _ _, rfl, ⟨x, by simp, hy⟩, ?_, hnb.out.setCell (by show w.heap.size ≤ w.heap.size + 1; omega) _⟩
          have := set_blk hb1.out 0 (.bool true)
          simpa using this
        | false =>
          have hh : Maps.has D (.int .i64 x.1) = false := by rw [hx3.out, hall'.out, hy]
          gi_wp2_with (gi_at_lookup; refine wpListIn_lookup_own_ok_int _ rfl _ _ 55 rfl 3 3 .i64 int_keyed3 Try.underlying55 Try.underlying3 (Try.zeroValue3 _) _ k D rfl hm1 _ _ rfl (Maps.keyOf_int_mk Try.underlying3 hwf.out) ?_; intro cc hat hwc; rw [hh])
          refine ⟨KeepsOthers.refl _, Below.refl _ _, fun y hy2 => ?_, hP'.out⟩
          rcases List.mem_append.1 hy2 with h | h
          · exact hpre'.out y h
          · simp at h; subst h; exact hy
      case hdone =>
        rintro D ys W hD hys ⟨hpre, hP⟩ hK
        have hp1 := hP.p1
        have c1 : W.cell? ⟨w.heap.size + 1, 0, none⟩ = some (.bool false) := cell_of_row _ _ 0 _ _ _ hp1
        have f1 := frozen_blk hp1 0
        have hnb := Lib.hid hP.nb
        have hK0 := Lib.hid hK
        have hp1' := Lib.hid hp1
        have hno : passedB a b l = false := by
          unfold passedB
          rw [← hys, List.any_map]
          rw [List.any_eq_false]
          intro y hy
          simp [hpre y hy]
        have hno' := Lib.hid hno
        clear hP hpre hys hno hp1
        gi_wp2
        go_wp2_with fail
        have hp2 := set_blk hp1'.out 0 (.bool false)
        have hK' := (KeepsOthers.setCell W ⟨w.heap.size + 1, 0, none⟩ (.bool false)).same D _ hK0.out rfl
        refine ⟨by simp, .inl ⟨_, _, rfl, run_takeDeferred hK', ?_⟩⟩
        have hc5 : ((W.setCell ⟨w.heap.size + 1, 0, none⟩ (.bool false)).putObj D (.deferred none)).cell? ⟨w.heap.size + 1, 0, none⟩ = some (.bool false) :=
          cell_kept (World.cell?_setCell_same' W ⟨w.heap.size + 1, 0, none⟩ (.bool false) (by rw [c1]; rfl)) (grownBy_putObj' _ D (.deferred none)) (fun r e => by cases e; exact ⟨_, hK', rfl⟩)
        refine ⟨.bool false, ?_, by rw [hno'.out], Below.trans (Below.setCell hnb.out (p := ⟨w.heap.size + 1, 0, none⟩) (by show w.heap.size ≤ w.heap.size + 1; omega) _) (belowK_b (w := w) (Nat.le_refl _) _ D _ _ (by omega) hK' rfl rfl)⟩
        simp [results, Try.f56, go_sem, hc5]
      case hstop =>
        rintro D cd pre W hD hpre ⟨rfl, hin, hb1, hnb⟩ hK
        have c1 : W.cell? ⟨w.heap.size + 1, 0, none⟩ = some (.bool true) := cell_of_row _ _ 0 _ _ _ hb1
        have hyes : passedB a b l = true := by
          unfold passedB
          rw [List.any_eq_true]
          obtain ⟨y, hy, h⟩ := hin
          exact ⟨y.1, hpre.subset (List.mem_map.2 ⟨y, hy, rfl⟩), h⟩
        have hyes' := Lib.hid hyes
        have hnb' := Lib.hid hnb
        have hK0 := Lib.hid hK
        clear hyes hin hpre hnb
        gi_wp2
        go_wp2_with fail
        refine ⟨by simp, .inl ⟨_, _, rfl, run_takeDeferred hK0.out, ?_⟩⟩
        have hc5 := cell_kept c1 (grownBy_putObj' _ D (.deferred none)) (fun r e => by cases e; exact ⟨_, hK0.out, rfl⟩)
        refine ⟨.bool true, ?_, by rw [hyes'.out], Below.trans hnb'.out (belowK_b (w := w) (Nat.le_refl _) W D _ _ (by omega) hK0.out rfl rfl)⟩
        simp [results, Try.f56, go_sem, hc5]
end Go.Proofs.Yticifolljhplmaa
