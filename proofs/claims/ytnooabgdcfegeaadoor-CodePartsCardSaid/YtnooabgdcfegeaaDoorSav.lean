/-
  Proved here: what slices.AppendSeq gathers of a constant's iterator. Conditions: the list is short.
-/
import Derived.Test.YtnooabgdcfegeaaDoorSau
import Derived.RangeFuncBox
import Derived.OwnWalkIn
import Derived.TacticsInMore
namespace Go.Proofs.YtnooabgdcfegeaaDoor
open Go.RowKit Go.Shelf
set_option linter.unusedVariables false
set_option linter.unusedSimpArgs false
set_option maxRecDepth 100000
set_option maxHeartbeats 8000000
attribute [local go_sem] Oper.semAt_some
theorem info_in7 : (Tryd.prog.info? 37).map (fun i => (i.zero, i.size, i.bytes)) = some (some (.agg (i7C (0, 0, 0, 0, 0, false, false)).toArray), 7, 48) := by kernel_rfl
theorem parts_in7 : ∃ i, Tryd.prog.info? 37 = some i ∧ i.zero = some (.agg (i7C (0, 0, 0, 0, 0, false, false)).toArray) ∧ i.size = 7 ∧ i.bytes = 48 := by
  obtain ⟨i0, hi, h⟩ := Option.map_eq_some_iff.1 info_in7
  exact ⟨i0, hi, congrArg (·.1) h, congrArg (·.2.1) h, congrArg (·.2.2) h⟩
theorem one_in7 (i : In7) : ∀ u ∈ i7C i, u.oneCell' = true := fun u hu => by
  unfold i7C at hu
  rcases List.mem_cons.1 hu with rfl | hu; · rfl
  rcases List.mem_cons.1 hu with rfl | hu; · rfl
  rcases List.mem_cons.1 hu with rfl | hu; · rfl
  rcases List.mem_cons.1 hu with rfl | hu; · rfl
  rcases List.mem_cons.1 hu with rfl | hu; · rfl
  rcases List.mem_cons.1 hu with rfl | hu; · rfl
  rcases List.mem_cons.1 hu with rfl | hu; · rfl
  cases hu
/-- Which objects a gatherer of instructions writes. -/
def XI (o : Obj) : Bool := match o with
  | .cells _ t _ => t == 37
  | _ => false
theorem XI_ok : XOk XI := ⟨fun _ _ => rfl, fun _ _ => rfl, fun _ _ => rfl, fun o h => by cases o <;> first | rfl | cases h⟩
theorem app_kq {R : Nat → Prop} {W w1 : World} {B n₀ k : Nat} {v v' : Value} {xs : List Value} {tmp : Obj} (hRB : R B) (hr : W.ownsRow n₀ 37 7 v k xs) (hg : (W.alloc tmp).grownBy w1 v.ownBlock) :
    Kq XI R W (w1.setCell ⟨B, 0, none⟩ v') := by
  have hs : W.heap.size ≤ w1.heap.size := Nat.le_trans (by rw [World.size_alloc]; omega) hg.size
  refine ⟨Nat.le_trans hs (grownBy_setCell' w1 B v').size, fun j o hj hA hX => ?_⟩
  refine (Below.heap_setCell _ _ _ j (fun e => hj (by rw [e]; exact hRB))).trans ?_
  have hlt : j < W.heap.size := (Array.getElem?_eq_some_iff.1 hA).1
  refine (hg.block j (by rw [World.size_alloc]; omega) (fun e => ?_)).trans ((Below.heap_alloc _ _ _ hlt).trans hA)
  rcases hr.2 with ⟨rfl, _⟩ | ⟨g, cap, cur, rfl, _, hgb, _⟩
  · simp [Value.ownBlock] at e
  · have e' : j = g := by simpa [Value.ownBlock] using e
    subst e'
    rw [hgb] at hA
    cases hA
    simp [XI] at hX
theorem app_seq {rd v : Int} {L : List In7} (h : ConOK rd v L) (hL : L.length ≤ 1000) (VB RB : Nat) (w : World)
    (hV : w.heap[VB]? = some (.cells #[.int .u64 v] 23 (0, 0))) (hR : w.heap[RB]? = some (.cells #[.int .i64 rd] 3 (0, 0))) :
    Calls Tryd.prog 50 #[.slice none 0 0, .func (.func 51) #[] #[.pointer (some ⟨VB, 0, none⟩), .pointer (some ⟨RB, 0, none⟩)]] w fun r w' =>
      ∃ s, r = .returned s ∧ w'.ownsRow w.heap.size 37 7 s L.length (L.flatMap i7C) ∧ Nb w w' := by
  have hVl : VB < w.heap.size := lt_bkc hV
  have hRl : RB < w.heap.size := lt_bkc hR
  have hCh := Lib.hid h
  clear h
  obtain ⟨i0, hi, hz0, hz1, hz2⟩ := parts_in7
  refine (callsIn_wide (n := 1)).1 ?_
  refine callsIn_of_wp_marks Tryd.func50 rfl trivial ?_ rfl
  simp only [Tryd.ntmps50, List.size_toArray, List.length_cons, List.length_nil, Nat.reduceAdd, Nat.reduceSub, Array.replicate_succ, Array.replicate_zero, List.push_toArray, List.append_toArray, List.nil_append, List.cons_append]
  refine wpIn_wide.2 ?_
  go_wp2_with fail
  have bO : (w.alloc (.cells #[.slice none 0 0] 41)).heap[w.heap.size]? = some (.cells #[.slice none 0 0] 41 (0, 0)) := new_bkc _ _ rfl
  have n1 : Nb w (w.alloc (.cells #[.slice none 0 0] 41)) := Below.alloc (Below.refl _ _) (Nat.le_refl _) _
  have z1 : (w.alloc (.cells #[.slice none 0 0] 41)).heap.size = w.heap.size + 1 := World.size_alloc _ _
  generalize hW1 : w.alloc (.cells #[.slice none 0 0] 41) = W1 at *
  refine (wpIn_wide (n := 1)).1 ?_
  refine range_boxO (F := Fence.wide) (n := 1) rfl (Nat.le_refl 1) (gf := 51) (lb := #[.pointer (some ⟨VB, 0, none⟩), .pointer (some ⟨RB, 0, none⟩)]) rfl trivial (enters_of Tryd.func51 (by kernel_rfl) rfl)
    (con_seq hCh.out XI XI_ok (fun k => k = w.heap.size ∨ k = W1.heap.size + 1) 0 VB RB (by rintro (h | h) <;> omega) (by rintro (h | h) <;> omega) W1 (n1.block hV) (n1.block hR) 2 (by rintro k (h | h) <;> omega))
    (fun h k => Kq.trans h k) (fun W o _ => Kq.of_nb (Below.alloc (Below.refl _ _) (Nat.le_refl _) _)) (fun W o o' _ => Kq.putObj W _ _ (.inr rfl)) (Below.refl _ _) (fun _ => rfl)
    (fun (xs : List In7) W => (∃ s, Boxed W w.heap.size 41 s ∧ W.ownsRow w.heap.size 37 7 s xs.length (xs.flatMap i7C) ∧ True) ∧ Below w.heap.size w W)
    (fun _ _ _ => False)
    (OwnFrom.and (Own.from (holdsRow_own w.heap.size w.heap.size 41 37 7 (fun (pre : List In7) => pre.length) (fun pre => pre.flatMap i7C) (fun _ _ => True)) _) (ownFrom_below (Nat.le_refl _) (by omega)))
    (fun _ _ _ _ _ hs _ _ => hs)
    ⟨⟨_, bO, World.ownsRow_nil _ _ _ _, trivial⟩, n1⟩
    (fun (x : In7) (B : Nat) => { tmps := #[.slice none 0 0, .func (.func 51) #[] #[.pointer (some ⟨VB, 0, none⟩), .pointer (some ⟨RB, 0, none⟩)], .pointer (some ⟨w.heap.size, 0, none⟩), undef, .slice none 0 0, .pointer (some ⟨B, 0, none⟩), .func (.func 51) #[] #[.pointer (some ⟨VB, 0, none⟩), .pointer (some ⟨RB, 0, none⟩)], .agg (i7C x).toArray, undef, undef, undef, undef, undef], defers := [] })
    (fun x => .cells (i7C x).toArray 37 (0, 0)) (fun _ => rfl) ?assign ?body ?done ?stop
  case assign =>
    rintro l2 ⟨o1, o2, o3, o4, o5, o6, o7⟩ W K hK
    simp only [i7C] at hK ⊢
    gi_wp2
    exact hK
  case body =>
    rintro l2 pre2 ⟨o1, o2, o3, o4, o5, o6, o7⟩ W B hBl hob hIx ⟨⟨s, hs, hrow, -⟩, hB⟩ hlen2
    have hc := hs.cell
    simp only [i7C] at hob ⊢
    obtain ⟨z, p0, p1, p2, p3, p4, p5, p6⟩ := cells7 hob
    have hBs := hB.size
    clear hob
    gi_wp2_with (gi_at_builtin; refine wpListIn_append_own _ rfl _ _ 41 rfl w.heap.size 37 i0 _ 7 48 Tryd.underlying41 hi hz0 hz1 hz2 rfl (by decide) _ _ _ rfl (hrow.alloc _) ⟨W.heap.size, 0, none⟩ 1 1 (i7C (o1, o2, o3, o4, o5, o6, o7)) rfl rfl ?c1 ?c2 ?c3 ?c4 ?c5 ?_)
    case c1 =>
      intro j u hj
      have e : ({ block := W.heap.size, off := 0 } : Addr).add j = ⟨W.heap.size, j, none⟩ := by simp [Addr.add]; intro h; omega
      rw [e]
      exact (cell_of_row _ _ j _ _ _ (new_bkc _ _ rfl)).trans ((List.getElem?_toArray ..).trans hj)
    case c2 => exact one_in7 _
    case c3 => unfold maxLen; omega
    case c4 => omega
    case c5 => rw [World.size_alloc]; omega
    intro v' w1 hown' hgrow _
    obtain ⟨g', cap', rfl⟩ := ownsRow_succ hown'
    obtain ⟨hv1, hv2, hr2, hk2, hb2⟩ := hs.appended (by decide) hrow hB.size (Nat.le_refl _) hown' hgrow
    have hq := app_kq (R := fun k => k = w.heap.size ∨ k = W1.heap.size + 1) (v' := .slice (some ⟨g', 0, none⟩) (pre2.length + 1) cap') (.inl rfl) hrow hgrow
    have hc1 := hv1.cell
    have hf1 := hv1.frozen
    clear p0 p1 p2 p3 p4 p5 p6 hc
    gi_wp2
    exact ⟨⟨hq.1, fun k o hk hA hc => hk2.same k o hA hc⟩, hq, ⟨_, hv2, by simpa using hr2, trivial⟩, hB.trans hb2⟩
  case done =>
    rintro D xs V hD rfl ⟨⟨s, hs, hrow, -⟩, hB⟩ hK
    have hc := hs.cell
    gi_wp2
    go_wp2_with fail
    refine ⟨by simp, .inl ⟨_, _, rfl, run_takeDeferred hK, ?_⟩⟩
    exact ⟨_, results_tmp rfl _ _ _, s, rfl, ownsRow_putObj hrow _ hK rfl, hB.trans (belowK_b (w := w) (Nat.le_refl _) V D _ _ (by omega) hK rfl rfl)⟩
  case stop =>
    rintro D c pre V _ _ h _
    exact h.elim
end Go.Proofs.YtnooabgdcfegeaaDoor
