/-
  Proved here: returnsFromA of the code: whether an operation returns a byte by the ID of another. Conditions: the pointers point at operations.
-/
import Derived.RangeFuncFrom
import Derived.RangeFuncWrites
import Derived.Test.YticifolljhplmaaYh
namespace Go.Proofs.Yticifolljhplmaa
open Go.RowKit Go.Sort Go.Shelf
set_option linter.unusedVariables false
set_option linter.unusedSimpArgs false
set_option maxRecDepth 100000
set_option maxHeartbeats 4000000
attribute [local go_sem] Oper.semAt_some
theorem returnsFromA_any (ab ao bb bo : Nat) (v : Value) (a b : OpD) (w : World) (ha : OpAt w ab ao a) (hb : OpAt w bb bo b) (hv : v.oneCell' = true) (hvs : ∃ p n c, v = .slice p n c) :
    Calls Try.prog 53 #[pairV ab ao bb bo v] w fun e w' => e = .returned (.bool (hasI (idsS b) a.id)) ∧ Nb w w' := by
  obtain ⟨vp, vn, vc, rfl⟩ := hvs
  obtain ⟨n, hn⟩ : ∃ n : Nat, n = 5 := ⟨_, rfl⟩
  have h1 : 1 ≤ n := by omega
  refine (callsIn_wide (n := n)).1 ?_
  unfold pairV
  refine callsIn_of_wp_marks Try.func53 rfl trivial ?_ rfl
  simp only [Try.ntmps53, List.size_toArray, List.length_cons, List.length_nil, Nat.reduceAdd, Nat.reduceSub, Array.replicate_succ, Array.replicate_zero, List.push_toArray, List.append_toArray, List.nil_append, List.cons_append]
  gi_wp2_with (refine ⟨trivial, ?_⟩; gi_at_call 61; refine (callsIn_wide.2 (returned_any bb bo _)).mono ?_; rintro e w' ⟨rfl, rfl⟩)
  obtain ⟨W0, hW⟩ : ∃ W0, ((w.alloc (.cells #[.pointer (some ⟨ab, ao, none⟩), .pointer (some ⟨bb, bo, none⟩), .slice vp vn vc] 67)).alloc (.cells #[.bool false] 4)).alloc (.cells #[.pointer (some ⟨bb, bo, none⟩)] 56) = W0 := ⟨_, rfl⟩
  have n0 : Nb w W0 := by rw [← hW]; exact (((Nb.refl w).alloc _).alloc _).alloc _
  have hs0 : W0.heap.size = w.heap.size + 3 := by rw [← hW]; simp
  have p0 : W0.heap[w.heap.size]? = some (.cells #[.pointer (some ⟨ab, ao, none⟩), .pointer (some ⟨bb, bo, none⟩), .slice vp vn vc] 67 (0, 0)) := by rw [← hW]; exact old_blk (old_blk (new_blk w _ rfl) _) _
  have p1 : W0.heap[w.heap.size + 1]? = some (.cells #[.bool false] 4 (0, 0)) := by rw [← hW]; exact old_blk (new_blk _ _ (by simp)) _
  have p2 : W0.heap[w.heap.size + 2]? = some (.cells #[.pointer (some ⟨bb, bo, none⟩)] 56 (0, 0)) := by rw [← hW]; exact new_blk _ _ (by simp)
  rw [hW]
  clear hW
  have q0 : W0.cell? ⟨w.heap.size, 0, none⟩ = some (.pointer (some ⟨ab, ao, none⟩)) := cell_of_row _ _ 0 _ _ _ p0
  have q1 : W0.cell? ⟨w.heap.size + 1, 0, none⟩ = some (.bool false) := cell_of_row _ _ 0 _ _ _ p1
  have q2 : W0.cell? ⟨w.heap.size + 1 + 1, 0, none⟩ = some (.pointer (some ⟨bb, bo, none⟩)) := cell_of_row _ _ 0 _ _ _ p2
  have f1 : W0.frozen? ⟨w.heap.size + 1, 0, none⟩ = false := frozen_blk p1 0
  refine wpIn_rangeFunc_ownF rfl h1 (gf := 65) (lb := #[.pointer (some ⟨w.heap.size + 1 + 1, 0, none⟩)]) rfl trivial (enters_of Try.func65 (by kernel_rfl) rfl)
    (returned_stops (n - 1) (by omega) (w.heap.size + 1 + 1) w.heap.size bb bo b W0 q2 (hb.nb n0) (fun p len cap e hz => by
      rcases hb.rf with ⟨⟨p2, c2, e2⟩, _⟩ | ⟨fb, fo, fc, e2, hlt, _⟩
      · rw [e2] at e; cases e; omega
      · rw [e2] at e; cases e; exact hlt) (by omega)) belowK_t (belowK_b (by omega)) (Below.refl _ _) (fun _ => rfl)
    (fun (pre : List I64) W => ((∀ y ∈ pre, y.1 ≠ a.id) ∧ W.cell? ⟨w.heap.size, 0, none⟩ = some (.pointer (some ⟨ab, ao, none⟩)) ∧ W.cell? ⟨w.heap.size + 1, 0, none⟩ = some (.bool false) ∧ W.frozen? ⟨w.heap.size + 1, 0, none⟩ = false) ∧ Below w.heap.size w W)
    (fun c (pre : List I64) W => (c = .ret ∧ a.id ∈ pre.map (·.1) ∧ W.cell? ⟨w.heap.size + 1, 0, none⟩ = some (.bool true)) ∧ Below w.heap.size w W)
    (OwnFrom.and (Own.from (fun s A B row hs hg hr => ⟨hs.1, cell_kept hs.2.1 hg hr, cell_kept hs.2.2.1 hg hr, (frozen_kept hs.2.2.1 hg hr).trans hs.2.2.2⟩) _) (ownFrom_below (Nat.le_refl _) (by omega)))
    (fun c => OwnFrom.and (Own.from (fun s A B row hs hg hr => ⟨hs.1, hs.2.1, cell_kept hs.2.2 hg hr⟩) _) (ownFrom_below (Nat.le_refl _) (by omega)))
    ⟨⟨by simp, q0, q1, f1⟩, n0⟩
    (fun x : I64 => { tmps := #[.agg #[.pointer (some ⟨ab, ao, none⟩), .pointer (some ⟨bb, bo, none⟩), .slice vp vn vc], .pointer (some ⟨w.heap.size, 0, none⟩), .pointer (some ⟨w.heap.size + 1, 0, none⟩), .int .i64 x.1, .pointer (some ⟨w.heap.size, 1, none⟩), .pointer (some ⟨bb, bo, none⟩), .func (.func 65) #[] #[.pointer (some ⟨w.heap.size + 1 + 1, 0, none⟩)], .int .i64 x.1, undef, undef, undef, undef, undef, undef, undef], defers := [] }) ?assign ?body ?done ?stop
  case assign =>
    intro l x W K hK
    gi_wp2
    exact hK
  case body =>
    rintro l pre x W ⟨⟨hp, hc0, hcr, hfr⟩, hB⟩ _
    have hid := (ha.nb hB).c0
    gi_wp2
    · rename_i hx
      have hxe : x.1 = a.id := by simpa using hx
      exact ⟨KeepsOthers.setCell _ _ _, ⟨rfl, by rw [← hxe]; exact List.mem_map.2 ⟨x, by simp, rfl⟩, World.cell?_setCell_same' _ _ _ (by rw [hcr]; rfl)⟩, hB.setCell (p := ⟨w.heap.size + 1, 0, none⟩) (by simp) _⟩
    · rename_i hx
      exact ⟨KeepsOthers.refl _, Below.refl _ _, ⟨fun y hy => (List.mem_append.1 hy).elim (hp y) (fun e e' => by simp at e; subst e; simp [e'] at hx), hc0, hcr, hfr⟩, hB⟩
  case done =>
    rintro D ys W hD hys ⟨⟨hne, _, hcr, hfr⟩, hB⟩ hK
    gi_wp2
    have hK' := (KeepsOthers.setCell W ⟨w.heap.size + 1, 0, none⟩ (.bool false)).same D _ hK rfl
    refine ⟨by simp, .inl ⟨_, _, rfl, run_takeDeferred hK', ?_⟩⟩
    have hc5 := cell_kept (World.cell?_setCell_same' W ⟨w.heap.size + 1, 0, none⟩ (.bool false) (by rw [hcr]; rfl)) (grownBy_putObj' _ D (.deferred none)) (fun r e => by cases e; exact ⟨_, hK', rfl⟩)
    have hno : hasI (idsS b) a.id = false := by
      unfold hasI
      rw [List.contains_eq_mem]
      rw [← hys]
      exact decide_eq_false (fun h => by obtain ⟨y, hy, e⟩ := List.mem_map.1 h; exact hne y hy e)
    refine ⟨.bool false, ?_, by rw [hno], (hB.setCell (p := ⟨w.heap.size + 1, 0, none⟩) (by simp) _).trans (belowK_b (w := w) (Nat.le_refl _) _ D _ _ (by omega) hK' rfl rfl)⟩
    simp [results, Try.f53, go_sem, hc5]
  case stop =>
    rintro D c pre W hD hpre ⟨⟨rfl, hin, hcr⟩, hB⟩ hK
    gi_wp2
    refine ⟨by simp, .inl ⟨_, _, rfl, run_takeDeferred hK, ?_⟩⟩
    have hc5 := cell_kept hcr (grownBy_putObj' _ D (.deferred none)) (fun r e => by cases e; exact ⟨_, hK, rfl⟩)
    have hyes : hasI (idsS b) a.id = true := by
      unfold hasI
      rw [List.contains_eq_mem]
      exact decide_eq_true (hpre.subset hin)
    refine ⟨.bool true, ?_, by rw [hyes], hB.trans (belowK_b (w := w) (Nat.le_refl _) W D _ _ (by omega) hK rfl rfl)⟩
    simp [results, Try.f53, go_sem, hc5]
end Go.Proofs.Yticifolljhplmaa
