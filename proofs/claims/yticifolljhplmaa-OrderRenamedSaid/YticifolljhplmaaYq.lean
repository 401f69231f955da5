/-
  Proved here: slices.Collect and slices.AppendSeq at the iterator of holding; Rules of the code: a slice of the numbers of the rules that hold of two operations. Conditions: there are at most a million operations.
-/
import Derived.RangeFuncBox
import Derived.RangeFuncWrites
import Derived.Maps.AppendAt
import Derived.Test.YticifolljhplmaaYp
namespace Go.Proofs.Yticifolljhplmaa
open Go.RowKit Go.Sort Go.Shelf
set_option linter.unusedVariables false
set_option linter.unusedSimpArgs false
set_option maxRecDepth 100000
set_option maxHeartbeats 4000000
attribute [local go_sem] Oper.semAt_some
theorem appendSeq_any (w0 w : World) (hb0 : Nb w0 w) (g : Nat) (lb : Array Value) (eg : ∀ args w, (callFunc g args).run Try.prog w = .ok (.enter g args) w) (RS : List Int) (hlen : RS.length ≤ 1000)
    (hseq : ∀ n, 1 ≤ n → SeqStopsK Fence.wide n Try.prog g lb (fun x : Int => #[Value.int .i64 x]) (KpH w0) (fun xs => xs = RS) (fun pre => pre <+: RS) RS.length w) :
    Calls Try.prog 36 #[.slice none 0 0, .func (.func g) #[] lb] w fun e w' => ∃ v, e = .returned v ∧ w'.ownsRow w.heap.size 3 1 v RS.length (RS.map (Value.int .i64)) ∧ (v = .slice none 0 0 ↔ RS = []) ∧ Nb w w' := by
  obtain ⟨N, hN⟩ : ∃ N : Nat, N = 5 := ⟨_, rfl⟩
  have h1 : 1 ≤ N := by omega
  obtain ⟨i0, hi, hz0, hz1, hz2⟩ := info_parts info_int
  refine (callsIn_wide (n := N)).1 ?_
  refine callsIn_of_wp_marks Try.func36 rfl trivial ?_ rfl
  simp only [Try.ntmps36, List.size_toArray, List.length_cons, List.length_nil, Nat.reduceAdd, Nat.reduceSub, Array.replicate_succ, Array.replicate_zero, List.push_toArray, List.append_toArray, List.nil_append, List.cons_append]
  gi_wp2
  have bO := Boxed.new w 27 (.slice none 0 0)
  have n0 : Below w.heap.size w (w.alloc (.cells #[.slice none 0 0] 27)) := (Below.refl _ w).alloc (Nat.le_refl _) _
  have hle0 := hb0.size
  have hmax : (1000 : Nat) < maxLen := by decide
  apply wpIn_rangeFunc_ownG rfl h1 (gf := g) (lb := lb) rfl trivial eg (hseq (N - 1) (by omega)) (fun h k => KpH.trans h k) (fun W l o o' hl h hc _ => KpH.putObj o' (by simp at hl; omega) h hc) n0 (fun _ => rfl)
    (fun (pre : List Int) W => (∃ v, Boxed W w.heap.size 27 v ∧ W.ownsRow w.heap.size 3 1 v pre.length (pre.map (Value.int .i64)) ∧ (v = .slice none 0 0 ↔ pre = [])) ∧ Below w.heap.size w W)
    (fun _ _ _ => False)
    (OwnFrom.and (Own.from (holdsRow_own w.heap.size w.heap.size 27 3 1 (fun pre => pre.length) (fun pre => pre.map (Value.int .i64)) (fun pre v => v = .slice none 0 0 ↔ pre = [])) _) (ownFrom_below (Nat.le_refl _) (by simp)))
    (fun _ _ _ _ _ hs _ _ => hs)
    ⟨⟨_, bO, World.ownsRow_nil _ _ _ _, by simp⟩, n0⟩
  case hassign =>
    intro l x W K hK
    gi_wp2
    exact hK
  case hbody =>
    rintro l pre x W ⟨⟨v, hv, hrow, hnil⟩, hB⟩ hlt
    have hc := hv.cell
    gi_wp2_with (gi_at_builtin; refine wpListIn_append_own _ rfl _ _ 27 rfl w.heap.size 3 i0 (.int .i64 0) 1 8 Try.underlying27 hi hz0 hz1 hz2 rfl (by decide) _ _ _ rfl (hrow.alloc _) ⟨W.heap.size, 0, none⟩ 1 1 [.int .i64 x] rfl rfl (cell_one_new _ _ _) (by simp [Value.oneCell']) (by have := hmax; omega) (by omega) (by have := hB.size; simp; omega) ?_; intro v' w1 hown' hgrow _; obtain ⟨g', cap', rfl⟩ := ownsRow_succ hown'; obtain ⟨hv1, hv2, hr2, hk2, hb2⟩ := hv.appended (by decide) hrow hB.size (Nat.le_refl _) hown' hgrow; have hc1 := hv1.cell; have hf1 := hv1.frozen)
    have hkt : ∀ (j : Nat) (cs : Array Value) (t : TypeId) (fr : Nat × Nat), (t == 56 || t == 67) = true → W.heap[j]? = some (Obj.cells cs t fr) → (w1.setCell ⟨w.heap.size, 0, none⟩ (.slice (some ⟨g', 0, none⟩) (pre.length + 1) cap')).heap[j]? = some (Obj.cells cs t fr) := by
      intro j cs t fr ht hj
      have hjb : j ≠ w.heap.size := by
        intro e
        have h2 : W.heap[w.heap.size]? = some (.cells #[v] 27 (0, 0)) := hv
        rw [e, h2] at hj
        cases hj
        simp at ht
      have hjr : some j ≠ v.ownBlock := by
        intro e
        rcases hrow.2 with ⟨rfl, _⟩ | ⟨g2, c2, cu2, rfl, _, hg2, _⟩
        · cases e
        · simp only [Value.ownBlock, Option.some.injEq] at e
          rw [e, hg2] at hj
          cases hj
          simp at ht
      have hjl := lt_blk hj
      exact (Below.heap_setCell _ _ _ _ hjb).trans ((hgrow.block j (by simp; omega) hjr).trans ((Below.heap_alloc _ _ j hjl).trans hj))
    refine ⟨hk2.from _, ⟨Below.mono hb2 hle0, hb2.size, hkt⟩, ⟨_, hv2, ?_, by simp⟩, hB.trans hb2⟩
    simpa using hr2
  case hdone =>
    rintro D ys W hD rfl ⟨⟨v, hv, hrow, hnil⟩, hB⟩ hK
    have hc := hv.cell
    gi_wp2
    refine ⟨by simp, .inl ⟨_, _, rfl, run_takeDeferred hK, ?_⟩⟩
    exact ⟨_, results_tmp rfl _ _ _, v, rfl, ownsRow_putObj hrow _ hK rfl, hnil, Below.trans hB (belowK_b (w := w) (Nat.le_refl _) W D _ _ (by simp at hD; omega) hK rfl rfl)⟩
  case hstop =>
    rintro D c pre W _ _ h _
    exact h.elim
theorem collect_any (w0 w : World) (hb0 : Nb w0 w) (g : Nat) (lb : Array Value) (eg : ∀ args w, (callFunc g args).run Try.prog w = .ok (.enter g args) w) (RS : List Int) (hlen : RS.length ≤ 1000)
    (hseq : ∀ n, 1 ≤ n → SeqStopsK Fence.wide n Try.prog g lb (fun x : Int => #[Value.int .i64 x]) (KpH w0) (fun xs => xs = RS) (fun pre => pre <+: RS) RS.length w) :
    Calls Try.prog 26 #[.func (.func g) #[] lb] w fun e w' => ∃ v, e = .returned v ∧ w'.ownsRow w.heap.size 3 1 v RS.length (RS.map (Value.int .i64)) ∧ (v = .slice none 0 0 ↔ RS = []) ∧ Nb w w' := by
  have hC := appendSeq_any w0 w hb0 g lb eg RS hlen hseq
  go_enter Try.func26, Try.ntmps26
  go_wp2_with (go_at_call 36; refine hC.mono ?_; rintro e w' ⟨v, rfl, h1, h2, h3⟩)
  go_ret
  exact ⟨_, rfl, h1, h2, h3⟩
theorem rulesS_len (L : List OpD) (i j : Int) : (rulesS L i j).length ≤ 13 := by
  unfold rulesS
  split
  · split
    · split
      · unfold rulesTo
        rw [List.length_map]
        refine Nat.le_trans (List.length_filter_le _ _) (by simp)
      · simp
    · simp
  · simp
theorem ownsRow_ints {w : World} {b : Nat} {v : Value} {xs : List Int} (h : w.ownsRow b 3 1 v xs.length (xs.map (Value.int .i64))) (hn : v = .slice none 0 0 ↔ xs = []) : IntsR w v xs := by
  rcases h.2 with ⟨rfl, h0⟩ | ⟨g, cap, cur, rfl, _, hg, hc, _, _, ht⟩
  · exact .inl ⟨⟨_, _, rfl⟩, hn.1 rfl⟩
  · refine .inr ⟨g, 0, cap, rfl, lt_blk hg, hc, fun i x hi => ?_⟩
    rw [cell_of_row _ _ (0 + i) _ _ _ hg]
    have h2 : (cur.toList.take (xs.length * 1))[i]? = some (.int .i64 x) := by rw [ht, List.getElem?_map, hi]; rfl
    rw [List.getElem?_take] at h2
    split at h2
    · simpa using h2
    · cases h2
/-- **Rules**: a new slice of the numbers of the rules that hold. -/
theorem rules_of (v : Value) (L : List OpD) (i j : Int) (w : World) (hO : OpsR w v L) (hL : L.length ≤ 1000000) (hs : ∀ m ∈ L, ShortOp m) (i0 : -9223372036854775808 ≤ i) (j1 : j < 9223372036854775808) :
    Calls Try.prog 15 #[v, .int .i64 i, .int .i64 j] w fun e w' => ∃ u, e = .returned u ∧ IntsR w' u (rulesS L i j) ∧ Nb w w' := by
  obtain ⟨p, c, hv, -⟩ := hO.cases
  obtain ⟨nl, hnl⟩ : ∃ nl, L.length = nl := ⟨_, rfl⟩
  rw [hnl] at hv
  subst hv
  obtain ⟨W0, hW⟩ : ∃ W0, ((w.alloc (.cells #[.slice p nl c] 22)).alloc (.cells #[.int .i64 i] 3)).alloc (.cells #[.int .i64 j] 3) = W0 := ⟨_, rfl⟩
  have n0 : Nb w W0 := by rw [← hW]; exact (((Nb.refl w).alloc _).alloc _).alloc _
  have q1 : W0.cell? ⟨w.heap.size, 0, none⟩ = some (.slice p nl c) := by rw [← hW]; exact cell_of_row _ _ 0 _ _ _ (old_blk (old_blk (new_blk w _ rfl) _) _)
  have q2 : W0.cell? ⟨w.heap.size + 1, 0, none⟩ = some (.int .i64 i) := by rw [← hW]; exact cell_of_row _ _ 0 _ _ _ (old_blk (new_blk _ _ (by simp)) _)
  have q3 : W0.cell? ⟨w.heap.size + 2, 0, none⟩ = some (.int .i64 j) := by rw [← hW]; exact cell_of_row _ _ 0 _ _ _ (new_blk _ _ (by simp))
  have hC := collect_any w W0 n0 37 #[.pointer (some ⟨w.heap.size + 1, 0, none⟩), .pointer (some ⟨w.heap.size + 2, 0, none⟩), .pointer (some ⟨w.heap.size, 0, none⟩)] (enters_of Try.func37 (by kernel_rfl) rfl) (rulesS L i j) (Nat.le_trans (rulesS_len L i j) (by decide))
    (fun n hn => holding_stops n hn (w.heap.size + 1) (w.heap.size + 2) w.heap.size i j (.slice p nl c) L w hO hL hs W0 n0 q2 q3 q1 i0 j1)
  have hH := holding_any p nl c i j w
  rw [hW] at hH
  clear hW q1 q2 q3 hO hs hL
  go_enter Try.func15, Try.ntmps15
  go_wp2_with fail
  refine hH.mono ?_
  rintro e w' ⟨rfl, rfl⟩
  go_wp2_with fail
  refine hC.mono ?_
  rintro e w2 ⟨u, rfl, h1, h2, h3⟩
  go_wp2_with fail
  go_ret
  exact ⟨_, rfl, ownsRow_ints h1 h2, n0.trans h3⟩
end Go.Proofs.Yticifolljhplmaa
