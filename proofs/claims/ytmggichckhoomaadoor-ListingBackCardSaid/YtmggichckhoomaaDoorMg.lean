/-
  Proved here: what holds between two rounds of the range in listing.Read (facts on its boxes). Conditions: none.
-/
import Derived.Test.YtmggichckhoomaaDoorMh
namespace Go.Proofs.YtmggichckhoomaaDoor
open Go.ChangeShapes Go.WideShapes Go.ChangeAt Go.RowKit Go.Shelf
set_option linter.unusedVariables false
set_option linter.unusedSimpArgs false
attribute [local go_sem] Oper.semAt_some
theorem boxLen_of {w : World} {b : Nat} {l : Bs} (h : w.cell? ⟨b, 0, none⟩ = some (.string ⟨l.toArray⟩)) : boxLen w b = l.length := by
  unfold boxLen; rw [h]; exact List.size_toArray
set_option maxRecDepth 100000 in
set_option maxHeartbeats 1000000 in
theorem read_any (l : Bs) (hl : l.length ≤ 1000000) (w : World) (hL : Lx w) :
    Calls Tryd.prog 6 #[.string ⟨l.toArray⟩] w (ReadAns l w) := by
  refine (callsIn_wide (n := 6)).1 ?_
  refine callsIn_of_wp_marks Tryd.func6 rfl trivial ?_ rfl
  simp only [Tryd.ntmps6, List.size_toArray, List.length_cons, List.length_nil, Nat.reduceAdd, Nat.reduceSub, Array.replicate_succ, Array.replicate_zero, List.push_toArray, List.append_toArray, List.nil_append, List.cons_append]
  gi_wp2
  refine ⟨trivial, ?_⟩
  refine (callsIn_wide.2 (linesf_any l _)).mono ?_
  rintro e w' ⟨rfl, rfl⟩
  gi_wp2
  obtain ⟨W0, hW0⟩ : ∃ W0, (((((w.alloc (Obj.cells #[.slice none 0 0] 22)).alloc (Obj.cells #[.int .i64 0] 3)).alloc (Obj.cells #[.int .i64 0] 24)).alloc (Obj.cells #[.slice none 0 0] 22)).alloc (Obj.cells #[.int .i64 0] 3)).alloc (Obj.cells #[.string ⟨l.toArray⟩] 9) = W0 := ⟨_, rfl⟩
  obtain ⟨b0, b1, b2, b3, b4, b5, z0, n0⟩ := six _ _ _ _ _ _ _ hW0
  rw [hW0]
  clear hW0
  refine range_open rfl (by decide) rfl trivial (enters_of Tryd.func31 (by kernel_rfl) rfl) ?_
  intro fn mk W1 hfn hmk hW1
  have hJ : RJ mk w w.heap.size l 0 [] (.slice none 0 0) W1 := by
    have n1 : Nb W0 W1 := by rw [← hW1]; exact ((Nb.refl _).alloc _).alloc _
    have d0 := blk_made W0 (.deferred (some [])) rfl z0
    have d1 := blk_made (W0.alloc (.deferred (some []))) (.loop (mk .ready none)) hW1 (by rw [World.size_alloc, z0])
    have n2 : Nb (W0.alloc (.deferred (some []))) W1 := by rw [← hW1]; exact (Nb.refl _).alloc _
    exact ⟨n1.block b0, n1.block b1, n1.block b2, n1.block b3, n1.block b4, n1.block b5, n2.block d0, d1, World.ownsRow_nil _ _ _ _, n0.trans n1⟩
  rw [z0]
  clear hW1 b0 b1 b2 b3 b4 b5 z0 n0
  refine callsIn_of_wp Tryd.func31 rfl trivial ?_ rfl
  simp only [Tryd.ntmps31, List.size_toArray, List.length_cons, List.length_nil, Nat.reduceAdd, Nat.reduceSub, Array.replicate_succ, Array.replicate_zero, List.push_toArray, List.append_toArray, List.nil_append, List.cons_append]
  gi_wp2
  gi_loopw [6] (fun _ wr => ∃ (rest : Bs) (n : Nat) (acc : List I7) (v : Value), n + rest.length ≤ l.length ∧ acc.length ≤ n ∧ Hid (rdS rest n acc = rdS l 0 []) ∧ RJ mk w w.heap.size rest n acc v wr) (fun _ wr => boxLen wr (w.heap.size + 1 + 1 + 1 + 1 + 1))
  case atStart => exact ⟨l, 0, [], .slice none 0 0, by omega, Nat.le_refl _, Lib.hid rfl, hJ⟩
  case round =>
    obtain ⟨rest, n, acc, v, hlen, hacc, hS, hR⟩ := hrel
    clear hJ
    have hR0 := Lib.hid hR
    obtain ⟨h0, h1, h2, h3, h4, h5, h6, h7, h8, h9⟩ := hR
    have c5 := cell1 h5
    have hq : rest = [] ∨ rest ≠ [] := by by_cases h : rest = []; exact .inl h; exact .inr h
    rcases hq with rfl | hne
    · have hend := run_endLoop (P := Tryd.prog) h7 (by rw [hmk]; simp)
      have hown : v = .slice none 0 0 ∨ ∃ g cp, v = .slice (some ⟨g, 0, none⟩) acc.length cp := by
        rcases h8.2 with ⟨e, -⟩ | ⟨g, cp, cur, e, -⟩
        · exact .inl e
        · exact .inr ⟨g, cp, e⟩
      obtain ⟨W3, hW3⟩ : ∃ W3, wr.putObj (w.heap.size + 1 + 1 + 1 + 1 + 1 + 1 + 1) (.loop { mk .ready none with state := .exhausted }) = W3 := ⟨_, rfl⟩
      rw [hW3] at hend
      have e2 : (mk .ready none).pending = none := by rw [hmk]
      rw [e2] at hend
      gi_wp2
      go_end0
      refine ⟨none, W3, hend, ?_⟩
      clear hend
      have o : ∀ k, k ≠ w.heap.size + 1 + 1 + 1 + 1 + 1 + 1 + 1 → W3.heap[k]? = wr.heap[k]? := fun k hk => by rw [← hW3]; exact World.putObj_heap_other hk
      have g0 := (o (w.heap.size) (by omega)).trans h0
      have g1 := (o (w.heap.size + 1) (by omega)).trans h1
      have g2 := (o (w.heap.size + 1 + 1) (by omega)).trans h2
      have g3 := (o (w.heap.size + 1 + 1 + 1) (by omega)).trans h3
      have g6 := (o (w.heap.size + 1 + 1 + 1 + 1 + 1 + 1) (by omega)).trans h6
      have g8 : W3.ownsRow w.heap.size 33 7 v acc.length (acc.flatMap insC) := by rw [← hW3]; exact ownsRow_putObj h8 _ h7 rfl
      have g9 : Nb w W3 := by
        refine ⟨by rw [← hW3]; exact h9.os, by rw [← hW3]; exact h9.tape, by rw [← hW3]; exact h9.output, by rw [← hW3, World.putObj_size]; exact h9.size, fun k hk => ?_⟩
        exact (o k (by omega)).trans (Below.block h9 k hk)
      have c3 := cell1 g3
      have c0 := cell1 g0
      have c1 := cell1 g1
      have c2 := cell1 g2
      have f0 := Boxed.frozen g0
      have f1 := Boxed.frozen g1
      have f2 := Boxed.frozen g2
      obtain ⟨W5, t5, t0, t1, t2, tb, tr⟩ := stored3 v (.int .i64 0) (.int .i64 0) g0 g1 g2 g6
      have hS' : rdS l 0 [] = (some acc, 0) := by have := hS; unfold Hid at this; rw [← this]; rfl
      rcases hown with rfl | ⟨g, cp, rfl⟩
      · gi_wp2
        refine ⟨by simp, .inl ⟨_, _, rfl, t5, ?_⟩⟩
        exact leaves_read _ _ _ _ _ _ _ _ _ rfl rfl rfl t0 t1 t2 (read_ok hS' (Below.trans g9 tb) (tr _ _ _ g8))
      · gi_wp2
        refine ⟨by simp, .inl ⟨_, _, rfl, t5, ?_⟩⟩
        exact leaves_read _ _ _ _ _ _ _ _ _ rfl rfl rfl t0 t1 t2 (read_ok hS' (Below.trans g9 tb) (tr _ _ _ g8))
    · have hne' : (rest == []) = false := beq_eq_false_iff_ne.2 hne
      have hBL := Lib.hid (boxLen_of c5)
      gi_wp2
      refine ⟨trivial, ?_⟩
      refine (callsIn_wide.2 (cut_any rest [10] (by omega) wr (hL.of_nb h9).1)).mono ?_
      rintro e wc ⟨rfl, hn1⟩
      have hRc := hR0.nb hn1
      clear hR0 h0 h1 h2 h3 h4 h5 h6 h7 h8 h9 c5
      obtain ⟨a, ha⟩ : ∃ a, (Lib.cut rest [10]).1 = a := ⟨_, rfl⟩
      obtain ⟨b, hb⟩ : ∃ b, (Lib.cut rest [10]).2.1 = b := ⟨_, rfl⟩
      obtain ⟨t, ht⟩ : ∃ t, (Lib.cut rest [10]).2.2 = t := ⟨_, rfl⟩
      rw [ha, hb, ht]
      obtain ⟨q0, q1, q2, q3, q4, q5, q6, q7, q8, q9⟩ := hRc
      have hy := run_yield (P := Tryd.prog) (args := #[.string ⟨a.toArray⟩, .bool t]) q7 (by rw [hmk]; rfl)
      gi_wp2
      refine roundIn_of_wpIn trivial ?_
      have hbr := run_beginRound (P := Tryd.prog) q7 (by rw [hmk])
      obtain ⟨W2, hW2⟩ : ∃ W2, wc.putObj (w.heap.size + 1 + 1 + 1 + 1 + 1 + 1 + 1) (.loop { mk .ready none with state := .busy }) = W2 := ⟨_, rfl⟩
      rw [hW2] at hbr
      have o : ∀ k, k ≠ w.heap.size + 1 + 1 + 1 + 1 + 1 + 1 + 1 → W2.heap[k]? = wc.heap[k]? := fun k hk => by rw [← hW2]; exact World.putObj_heap_other hk
      have g0 := (o (w.heap.size) (by omega)).trans q0
      have g1 := (o (w.heap.size + 1) (by omega)).trans q1
      have g2 := (o (w.heap.size + 1 + 1) (by omega)).trans q2
      have g3 := (o (w.heap.size + 1 + 1 + 1) (by omega)).trans q3
      have g4 := (o (w.heap.size + 1 + 1 + 1 + 1) (by omega)).trans q4
      have g5 := (o (w.heap.size + 1 + 1 + 1 + 1 + 1) (by omega)).trans q5
      have g6 := (o (w.heap.size + 1 + 1 + 1 + 1 + 1 + 1) (by omega)).trans q6
      have g8 : W2.ownsRow w.heap.size 33 7 v acc.length (acc.flatMap insC) := by rw [← hW2]; exact ownsRow_putObj q8 _ q7 rfl
      have g9 : Nb w W2 := by
        refine ⟨by rw [← hW2]; exact q9.os, by rw [← hW2]; exact q9.tape, by rw [← hW2]; exact q9.output, by rw [← hW2, World.putObj_size]; exact q9.size, fun k hk => ?_⟩
        exact (o k (by omega)).trans (Below.block q9 k hk)
      have c4 := cell1 g4
      have f4 := Boxed.frozen g4
      gi_wp2
      obtain ⟨W3, hW3⟩ : ∃ W3, W2.setCell ⟨w.heap.size + 1 + 1 + 1 + 1, 0, none⟩ (.int .i64 (n + 1)) = W3 := ⟨_, rfl⟩
      rw [hW3]
      have ne : ∀ k, k ≠ w.heap.size + 1 + 1 + 1 + 1 → W3.heap[k]? = W2.heap[k]? := fun k hk => by rw [← hW3]; exact Below.heap_setCell _ _ _ _ hk
      have k0 := (ne _ (by omega)).trans g0
      have k1 := (ne _ (by omega)).trans g1
      have k2 := (ne _ (by omega)).trans g2
      have k3 := (ne _ (by omega)).trans g3
      have k4 : W3.heap[w.heap.size + 1 + 1 + 1 + 1]? = some (.cells #[.int .i64 (n + 1)] 3 (0, 0)) := by rw [← hW3]; exact Boxed.set (t := 3) _ g4
      have k5 := (ne _ (by omega)).trans g5
      have k6 := (ne _ (by omega)).trans g6
      have k7 : W3.heap[w.heap.size + 1 + 1 + 1 + 1 + 1 + 1 + 1]? = some (.loop { mk .ready none with state := .busy }) := by rw [ne _ (by omega), ← hW2]; exact World.putObj_heap_same ((Array.getElem?_eq_some_iff.1 q7).1)
      have k8 : W3.ownsRow w.heap.size 33 7 v acc.length (acc.flatMap insC) := by rw [← hW3]; exact g8.kept (grownBy_setCell' _ _ _) (.inr (Boxed.not_row (t := 3) g4 (by decide) g8).symm)
      have k9 : Nb w W3 := Below.trans g9 ⟨by rw [← hW3]; rfl, by rw [← hW3]; rfl, by rw [← hW3]; rfl, by rw [← hW3]; exact (KeepsWalks.setCell W2 _ _).size, fun k hk => ne k (by omega)⟩
      clear hW3 ne o hW2 g0 g1 g2 g3 g4 g5 g6 g8 g9 hbr hy q0 q1 q2 q3 q4 q5 q6 q7 q8 q9 hn1 c4 f4
      refine ⟨trivial, ?_⟩
      refine ((callsIn_wide.2 (parse_any a (by rw [← ha]; have := cut_len rest [10]; omega) W3 (hL.of_nb k9))).inRound _).mono ?_
      rintro e W4 ⟨rfl, n4⟩
      replace k0 := n4.block k0
      replace k1 := n4.block k1
      replace k2 := n4.block k2
      replace k3 := n4.block k3
      replace k4 := n4.block k4
      replace k5 := n4.block k5
      replace k6 := n4.block k6
      replace k7 := n4.block k7
      replace k8 := own_nb23 k8 n4
      replace k9 : Nb w W4 := k9.trans n4
      clear n4
      have hne2 := hne
      unfold PV PE
      have c0 := cell1 k0
      have c1 := cell1 k1
      have c2 := cell1 k2
      have c3 := cell1 k3
      have c4 := cell1 k4
      have c5 := cell1 k5
      have f0 := Boxed.frozen k0
      have f1 := Boxed.frozen k1
      have f2 := Boxed.frozen k2
      have f3 := Boxed.frozen k3
      have f5 := Boxed.frozen k5
      have hW0 : (t = false ∨ PI a = none) → Hid (rdS l 0 [] = (none, n + 1)) := fun h => Lib.hid (rd_wrong l rest n acc hne ha hb ht hS.out h)
      have hW1 : ∀ i, t = true → PI a = some i → b.length + 1 ≤ rest.length ∧ Hid (rdS b (n + 1) (acc ++ [i]) = rdS l 0 []) := fun i h1 h2 => by
        subst h1
        exact ⟨(rd_right l rest n acc hne ha hb ht hS.out h2).1, Lib.hid (rd_right l rest n acc hne ha hb ht hS.out h2).2⟩
      cases hq : PI a with
      | none =>
        have hErr := hW0 (.inr hq)
        clear hW0 hW1
        simp only [instA, Option.getD_none, Option.isSome_none, zero7]
        clear c0 c1 c2 c3 c4 c5 f0 f1 f2 f3 f5
        gi_wp2
        obtain ⟨W5, hW5⟩ : ∃ W5, W4.alloc (Obj.cells #[.int .i64 0, .int .i64 0, .int .i64 0, .int .i64 0, .int .i64 0, .bool false, .bool false] 33) = W5 := ⟨_, rfl⟩
        have n5 : Nb W4 W5 := by rw [← hW5]; exact (Nb.refl _).alloc _
        rw [hW5]
        clear hW5
        have c4 := cell1 (n5.block k4)
        have c0 := cell1 (n5.block k0)
        have c1 := cell1 (n5.block k1)
        have c2 := cell1 (n5.block k2)
        have f0 := Boxed.frozen (n5.block k0)
        have f1 := Boxed.frozen (n5.block k1)
        have f2 := Boxed.frozen (n5.block k2)
        gi_region
        all_goals
          obtain ⟨W6, hW6⟩ : ∃ W6, (((W5.setCell ⟨w.heap.size, 0, none⟩ (.slice none 0 0)).setCell ⟨w.heap.size + 1, 0, none⟩ (.int .i64 (n + 1))).setCell ⟨w.heap.size + 1 + 1, 0, none⟩ (.int .i64 30)).drew = W6 := ⟨_, rfl⟩
          rw [hW6]
          obtain ⟨k76, hrest⟩ := err3 (.slice none 0 0) (.int .i64 (n + 1)) (.int .i64 30) (n5.block k0) (n5.block k1) (n5.block k2) (n5.block k6) (n5.block k7) W6 hW6
          obtain ⟨W7, hW7⟩ : ∃ W7, W6.putObj (w.heap.size + 1 + 1 + 1 + 1 + 1 + 1 + 1) (.loop (mk .done (some .ret))) = W7 := ⟨_, rfl⟩
          have hend : (Instr.endRound (w.heap.size + 1 + 1 + 1 + 1 + 1 + 1 + 1) (some .ret)).run Tryd.prog W6 = .ok (.bool false) W7 := by
            rw [← hW7, hmk]
            have := run_endRound (P := Tryd.prog) (some .ret) k76
            rw [hmk] at this
            exact this
          gi_wp2
          refine ⟨_, _, hend, ?_⟩
          gi_wp2
          have k77 : W7.heap[w.heap.size + 1 + 1 + 1 + 1 + 1 + 1 + 1]? = some (.loop (mk .done (some .ret))) := by rw [← hW7]; exact World.putObj_heap_same ((Array.getElem?_eq_some_iff.1 k76).1)
          obtain ⟨W8, hW8⟩ : ∃ W8, W7.putObj (w.heap.size + 1 + 1 + 1 + 1 + 1 + 1 + 1) (.loop { mk .done (some .ret) with state := .exhausted }) = W8 := ⟨_, rfl⟩
          have hel := run_endLoop (P := Tryd.prog) k77 (by rw [hmk]; simp)
          rw [hW8] at hel
          have e2 : (mk .done (some .ret)).pending = some .ret := by rw [hmk]
          rw [e2] at hel
          refine bodyPost_ret (results_none rfl _ _ _) rfl ?_
          refine ⟨_, W8, hel, ?_⟩
          gi_wp2
          obtain ⟨W9, hT, y0, y1, y2, n9⟩ := hrest _ _ W7 W8 hW7 hW8
          refine ⟨by simp, .inl ⟨_, _, rfl, hT, ?_⟩⟩
          refine leaves_read _ _ _ _ _ _ _ _ _ rfl rfl rfl y0 y1 y2 ?_
          exact read_err (n := n + 1) (hErr.out) (Below.trans (k9.trans n5) n9) _ (by simp)
      | some i =>
        simp only [instA, Option.getD_some, Option.isSome_some, if_true]
        cases t with
        | false =>
          have hErr := hW0 (.inl rfl)
          clear hW0 hW1
          clear c0 c1 c2 c3 c4 c5 f0 f1 f2 f3 f5
          gi_wp2
          obtain ⟨W5, hW5⟩ : ∃ W5, W4.alloc (Obj.cells #[.int .i64 i.1, .int .i64 i.2.1, .int .i64 i.2.2.1, .int .i64 i.2.2.2.1, .int .i64 i.2.2.2.2.1, .bool i.2.2.2.2.2.1, .bool i.2.2.2.2.2.2] 33) = W5 := ⟨_, rfl⟩
          have n5 : Nb W4 W5 := by rw [← hW5]; exact (Nb.refl _).alloc _
          rw [hW5]
          clear hW5
          have c4 := cell1 (n5.block k4)
          have c0 := cell1 (n5.block k0)
          have c1 := cell1 (n5.block k1)
          have c2 := cell1 (n5.block k2)
          have f0 := Boxed.frozen (n5.block k0)
          have f1 := Boxed.frozen (n5.block k1)
          have f2 := Boxed.frozen (n5.block k2)
          gi_region
          all_goals
            obtain ⟨W6, hW6⟩ : ∃ W6, (((W5.setCell ⟨w.heap.size, 0, none⟩ (.slice none 0 0)).setCell ⟨w.heap.size + 1, 0, none⟩ (.int .i64 (n + 1))).setCell ⟨w.heap.size + 1 + 1, 0, none⟩ (.int .i64 30)).drew = W6 := ⟨_, rfl⟩
            rw [hW6]
            obtain ⟨k76, hrest⟩ := err3 (.slice none 0 0) (.int .i64 (n + 1)) (.int .i64 30) (n5.block k0) (n5.block k1) (n5.block k2) (n5.block k6) (n5.block k7) W6 hW6
            obtain ⟨W7, hW7⟩ : ∃ W7, W6.putObj (w.heap.size + 1 + 1 + 1 + 1 + 1 + 1 + 1) (.loop (mk .done (some .ret))) = W7 := ⟨_, rfl⟩
            have hend : (Instr.endRound (w.heap.size + 1 + 1 + 1 + 1 + 1 + 1 + 1) (some .ret)).run Tryd.prog W6 = .ok (.bool false) W7 := by
              rw [← hW7, hmk]
              have := run_endRound (P := Tryd.prog) (some .ret) k76
              rw [hmk] at this
              exact this
            gi_wp2
            refine ⟨_, _, hend, ?_⟩
            gi_wp2
            have k77 : W7.heap[w.heap.size + 1 + 1 + 1 + 1 + 1 + 1 + 1]? = some (.loop (mk .done (some .ret))) := by rw [← hW7]; exact World.putObj_heap_same ((Array.getElem?_eq_some_iff.1 k76).1)
            obtain ⟨W8, hW8⟩ : ∃ W8, W7.putObj (w.heap.size + 1 + 1 + 1 + 1 + 1 + 1 + 1) (.loop { mk .done (some .ret) with state := .exhausted }) = W8 := ⟨_, rfl⟩
            have hel := run_endLoop (P := Tryd.prog) k77 (by rw [hmk]; simp)
            rw [hW8] at hel
            have e2 : (mk .done (some .ret)).pending = some .ret := by rw [hmk]
            rw [e2] at hel
            refine bodyPost_ret (results_none rfl _ _ _) rfl ?_
            refine ⟨_, W8, hel, ?_⟩
            gi_wp2
            obtain ⟨W9, hT, y0, y1, y2, n9⟩ := hrest _ _ W7 W8 hW7 hW8
            refine ⟨by simp, .inl ⟨_, _, rfl, hT, ?_⟩⟩
            refine leaves_read _ _ _ _ _ _ _ _ _ rfl rfl rfl y0 y1 y2 ?_
            exact read_err (n := n + 1) (hErr.out) (Below.trans (k9.trans n5) n9) _ (by simp)
        | true =>
          obtain ⟨hbl, hOk⟩ := hW1 i rfl hq
          clear hW0 hW1 c0 c1 c2 c3 c4 c5 f0 f1 f2 f3 f5
          have K4 : RK { mk .ready none with state := .busy } w w.heap.size rest (n + 1) acc v W4 := ⟨k0, k1, k2, k3, k4, k5, k6, k7, k8, k9⟩
          have K5 := Lib.hid (K4.nb ((Nb.refl W4).alloc (Obj.cells #[.int .i64 i.1, .int .i64 i.2.1, .int .i64 i.2.2.1, .int .i64 i.2.2.2.1, .int .i64 i.2.2.2.2.1, .bool i.2.2.2.2.2.1, .bool i.2.2.2.2.2.2] 33)))
          have k9' := k9.size
          clear K4 k0 k1 k2 k4 k5 k6 k7 k9
          have c3 := cell1 (((Nb.refl W4).alloc (Obj.cells #[.int .i64 i.1, .int .i64 i.2.1, .int .i64 i.2.2.1, .int .i64 i.2.2.2.1, .int .i64 i.2.2.2.2.1, .bool i.2.2.2.2.2.1, .bool i.2.2.2.2.2.2] 33)).block k3)
          obtain ⟨z, p0, p1, p2, p3, p4, p5, p6⟩ := cells7 (blk_made W4 (Obj.cells #[.int .i64 i.1, .int .i64 i.2.1, .int .i64 i.2.2.1, .int .i64 i.2.2.2.1, .int .i64 i.2.2.2.2.1, .bool i.2.2.2.2.2.1, .bool i.2.2.2.2.2.2] 33) rfl rfl)
          have k8' := own_nb23 k8 ((Nb.refl W4).alloc (Obj.cells #[.int .i64 i.1, .int .i64 i.2.1, .int .i64 i.2.2.1, .int .i64 i.2.2.2.1, .int .i64 i.2.2.2.2.1, .bool i.2.2.2.2.2.1, .bool i.2.2.2.2.2.2] 33))
          clear k8 k3
          obtain ⟨i0, hi, hz0, hz1, hz2⟩ := parts23
          gi_wp2_with (gi_at_builtin; refine wpListIn_append_own _ rfl _ _ 22 rfl w.heap.size 33 i0 _ 7 48 Tryd.underlying22 hi hz0 hz1 hz2 rfl (by decide) _ _ _ rfl (k8'.alloc _) ⟨W4.heap.size + 1, 0, none⟩ 1 1 (insC i) rfl rfl ?c1 ?c2 ?c3 ?c4 ?c5 ?_)
          case c1 => intro j u hj; exact hj
          case c2 => exact one_cell23 i
          case c3 => unfold maxLen; omega
          case c4 => omega
          case c5 => omega
          intro v' w6 hown' hgrow _
          obtain ⟨bx, hv', K7⟩ := rk_app (i := i) K5.out hown' hgrow
          obtain ⟨g, cp, rfl⟩ := hv'
          have cc := bx.cell
          have ff := bx.frozen
          clear hown' hgrow bx K5 c3 z p0 p1 p2 p3 p4 p5 p6 k8'
          obtain ⟨W7, hW7⟩ : ∃ W7, w6.setCell ⟨w.heap.size + 1 + 1 + 1, 0, none⟩ (.slice (some ⟨g, 0, none⟩) (acc.length + 1) cp) = W7 := ⟨_, rfl⟩
          rw [hW7] at K7
          have K7' := Lib.hid K7
          clear K7
          gi_wp2
          obtain ⟨W8, hW8⟩ : ∃ W8, W7.putObj (w.heap.size + 1 + 1 + 1 + 1 + 1 + 1 + 1) (.loop (mk .ready none)) = W8 := ⟨_, rfl⟩
          have hend : (Instr.endRound (w.heap.size + 1 + 1 + 1 + 1 + 1 + 1 + 1) none).run Tryd.prog W7 = .ok (.bool true) W8 := by
            rw [← hW8, hmk]
            have := run_endRound (P := Tryd.prog) none K7'.out.2.2.2.2.2.2.2.1
            rw [hmk] at this
            exact this
          refine ⟨_, _, hend, ?_⟩
          have K9 := rk_end (mk := mk) (b := b) K7'.out
          rw [hW8] at K9
          have b5 : Boxed W8 (w.heap.size + 1 + 1 + 1 + 1 + 1) 9 (.string ⟨rest.toArray⟩) := by
            rw [← hW8]; exact (World.putObj_heap_other (by omega)).trans K7'.out.2.2.2.2.2.1
          have c5 := b5.cell
          have f5 := b5.frozen
          have K9' := Lib.hid K9
          clear K9 hend cc ff b5
          gi_wp2
          refine ⟨⟨b, n + 1, acc ++ [i], _, by omega, by simp; omega, hOk, K9'.out⟩, ?_⟩
          have e9 := boxLen_of (cell1 K9'.out.2.2.2.2.2.1)
          rw [e9, hBL.out]
          omega
end Go.Proofs.YtmggichckhoomaaDoor
