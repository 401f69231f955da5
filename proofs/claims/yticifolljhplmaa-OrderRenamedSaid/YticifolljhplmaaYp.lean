/-
  Proved here: Rule of the code: the first rule that holds of two operations, or 0. Conditions: there are at most a million operations.
-/
import Derived.Test.YticifolljhplmaaYo
namespace Go.Proofs.Yticifolljhplmaa
open Go.RowKit Go.Sort Go.Shelf
set_option linter.unusedVariables false
set_option linter.unusedSimpArgs false
set_option maxRecDepth 100000
set_option maxHeartbeats 4000000
attribute [local go_sem] Oper.semAt_some
theorem KpH.putObj {w0 W : World} {l : Nat} {o : Obj} (o' : Obj) (hl : w0.heap.size ≤ l) (h : W.heap[l]? = some o) (hc : o.isCells = false) : KpH w0 W (W.putObj l o') := by
  refine ⟨?_, KpT.putObj o' h hc⟩
  have hg := grownBy_putObj' W l o'
  exact ⟨hg.os, hg.tape, hg.output, hg.size, fun j hj => World.putObj_heap_other (by omega)⟩
theorem rule_of (v : Value) (L : List OpD) (i j : Int) (w : World) (hO : OpsR w v L) (hL : L.length ≤ 1000000) (hs : ∀ m ∈ L, ShortOp m) (i0 : -9223372036854775808 ≤ i) (j1 : j < 9223372036854775808) :
    Calls Try.prog 25 #[v, .int .i64 i, .int .i64 j] w fun e w' => e = .returned (.int .i64 ((rulesS L i j).headD 0)) ∧ Nb w w' := by
  obtain ⟨p, c, hv, -⟩ := hO.cases
  obtain ⟨nl, hnl⟩ : ∃ nl, L.length = nl := ⟨_, rfl⟩
  rw [hnl] at hv
  obtain ⟨N, hN⟩ : ∃ N : Nat, N = 5 := ⟨_, rfl⟩
  have h1 : 1 ≤ N := by omega
  subst hv
  have hOh := Lib.hid hO
  have hLh := Lib.hid (hnl ▸ hL : nl ≤ 1000000)
  have hnlh := Lib.hid hnl
  have hsh := Lib.hid hs
  obtain ⟨RS, hRS⟩ : ∃ RS, rulesS L i j = RS := ⟨_, rfl⟩
  have hRS' := Lib.hid hRS
  rw [hRS]
  clear hO hL hs hnl hRS
  refine (callsIn_wide (n := N)).1 ?_
  refine callsIn_of_wp_marks Try.func25 rfl trivial ?_ rfl
  simp only [Try.ntmps25, List.size_toArray, List.length_cons, List.length_nil, Nat.reduceAdd, Nat.reduceSub, Array.replicate_succ, Array.replicate_zero, List.push_toArray, List.append_toArray, List.nil_append, List.cons_append]
  gi_wp2
  refine ⟨trivial, (callsIn_wide.2 (holding_any p nl c i j _)).mono ?_⟩
  rintro e w' ⟨rfl, rfl⟩
  gi_wp2
  obtain ⟨W0, hW⟩ : ∃ W0, (((w.alloc (.cells #[.int .i64 0] 3)).alloc (.cells #[.slice p nl c] 22)).alloc (.cells #[.int .i64 i] 3)).alloc (.cells #[.int .i64 j] 3) = W0 := ⟨_, rfl⟩
  have n0 : Nb w W0 := by rw [← hW]; exact ((((Nb.refl w).alloc _).alloc _).alloc _).alloc _
  have hs0 : W0.heap.size = w.heap.size + 4 := by rw [← hW]; simp
  have p0 : W0.heap[w.heap.size]? = some (.cells #[.int .i64 0] 3 (0, 0)) := by rw [← hW]; exact old_blk (old_blk (old_blk (new_blk w _ rfl) _) _) _
  have q1 : W0.cell? ⟨w.heap.size + 1, 0, none⟩ = some (.slice p nl c) := by rw [← hW]; exact cell_of_row _ _ 0 _ _ _ (old_blk (old_blk (new_blk _ _ (by simp)) _) _)
  have q2 : W0.cell? ⟨w.heap.size + 1 + 1, 0, none⟩ = some (.int .i64 i) := by rw [← hW]; exact cell_of_row _ _ 0 _ _ _ (old_blk (new_blk _ _ (by simp)) _)
  have q3 : W0.cell? ⟨w.heap.size + 1 + 2, 0, none⟩ = some (.int .i64 j) := by rw [← hW]; exact cell_of_row _ _ 0 _ _ _ (new_blk _ _ (by simp))
  rw [hW]
  clear hW
  apply wpIn_rangeFunc_ownF rfl h1 (gf := 37) (lb := #[.pointer (some ⟨w.heap.size + 1 + 1, 0, none⟩), .pointer (some ⟨w.heap.size + 1 + 2, 0, none⟩), .pointer (some ⟨w.heap.size + 1, 0, none⟩)]) rfl trivial (enters_of Try.func37 (by kernel_rfl) rfl)
    (holding_stops (N - 1) (by omega) (w.heap.size + 1 + 1) (w.heap.size + 1 + 2) (w.heap.size + 1) i j (.slice p nl c) L w hOh.out (by rw [hnlh.out]; exact hLh.out) hsh.out W0 n0 q2 q3 q1 i0 j1) (fun h k => KpH.trans h k) (fun W l o o' hl h hc _ => KpH.putObj o' (by omega) h hc) (Below.refl _ _) (fun _ => rfl)
    (fun (pre : List Int) W => pre = [] ∧ W.heap[w.heap.size]? = some (.cells #[.int .i64 0] 3 (0, 0)) ∧ Nb w W)
    (fun cd (pre : List Int) W => cd = .ret ∧ (∃ x, pre = [x] ∧ W.heap[w.heap.size]? = some (.cells #[.int .i64 x] 3 (0, 0))) ∧ Nb w W)
    (fun s A B row hs hg hr => ⟨hs.1, (hg.block _ (lt_blk hs.2.1) (by intro e; have := (hr _ e.symm).1; omega)).trans hs.2.1, hs.2.2.grown hg (fun r e => by have := (hr r e).1; omega)⟩)
    (fun cd s A B row hs hg hr => ⟨hs.1, (let ⟨x, hx, hb⟩ := hs.2.1; ⟨x, hx, (hg.block _ (lt_blk hb) (by intro e; have := (hr _ e.symm).1; omega)).trans hb⟩), hs.2.2.grown hg (fun r e => by have := (hr r e).1; omega)⟩)
    ⟨rfl, p0, n0⟩
  case hassign =>
    intro l x W K hK
    gi_wp2
    exact hK
  case hbody =>
    rintro l0 pre x W ⟨rfl, hp, hnb⟩ _
    have c1 : W.cell? ⟨w.heap.size, 0, none⟩ = some (.int .i64 0) := cell_of_row _ _ 0 _ _ _ hp
    have f1 := frozen_blk hp 0
    have hset := Lib.hid (set_blk hp 0 (.int .i64 x))
    have hnb' := Lib.hid hnb
    clear hp hnb
    gi_wp2
    refine ⟨KeepsOthers.setCell _ _ _, rfl, ⟨x, rfl, ?_⟩, hnb'.out.setCell (Nat.le_refl _) _⟩
    have := hset.out
    simpa using this
  case hdone =>
    rintro D ys W hD rfl ⟨hne, hp, hnb⟩ hK
    have c1 : W.cell? ⟨w.heap.size, 0, none⟩ = some (.int .i64 0) := cell_of_row _ _ 0 _ _ _ hp
    have f1 := frozen_blk hp 0
    have hK0 := Lib.hid hK
    have hnb' := Lib.hid hnb
    have hz := Lib.hid (show RS.headD 0 = 0 by rw [← hRS'.out, hne]; rfl)
    clear hnb hp hne
    gi_wp2
    have hK' := (KeepsOthers.setCell W ⟨w.heap.size, 0, none⟩ (.int .i64 0)).same D _ hK0.out rfl
    refine ⟨by simp, .inl ⟨_, _, rfl, run_takeDeferred hK', ?_⟩⟩
    have hc5 : ((W.setCell ⟨w.heap.size, 0, none⟩ (.int .i64 0)).putObj D (.deferred none)).cell? ⟨w.heap.size, 0, none⟩ = some (.int .i64 0) :=
      cell_kept (World.cell?_setCell_same' W ⟨w.heap.size, 0, none⟩ (.int .i64 0) (by rw [c1]; rfl)) (grownBy_putObj' _ D (.deferred none)) (fun r e => by cases e; exact ⟨_, hK', rfl⟩)
    refine ⟨.int .i64 0, ?_, by rw [hz.out], Below.trans (Below.setCell hnb'.out (p := ⟨w.heap.size, 0, none⟩) (Nat.le_refl _) _) (belowK_b (w := w) (Nat.le_refl _) _ D _ _ (by omega) hK' rfl rfl)⟩
    simp [results, Try.f25, go_sem, hc5]
  case hstop =>
    rintro D cd pre W hD hpre ⟨rfl, ⟨x, rfl, hp⟩, hnb⟩ hK
    have c1 : W.cell? ⟨w.heap.size, 0, none⟩ = some (.int .i64 x) := cell_of_row _ _ 0 _ _ _ hp
    have hz := Lib.hid (show RS.headD 0 = x by rw [← hRS'.out]; obtain ⟨r, hr⟩ := hpre; rw [← hr]; rfl)
    have hnb' := Lib.hid hnb
    have hK0 := Lib.hid hK
    clear hpre hnb hp
    gi_wp2
    refine ⟨by simp, .inl ⟨_, _, rfl, run_takeDeferred hK0.out, ?_⟩⟩
    have hc5 := cell_kept c1 (grownBy_putObj' _ D (.deferred none)) (fun r e => by cases e; exact ⟨_, hK0.out, rfl⟩)
    refine ⟨.int .i64 x, ?_, by rw [hz.out], Below.trans hnb'.out (belowK_b (w := w) (Nat.le_refl _) W D _ _ (by omega) hK0.out rfl rfl)⟩
    simp [results, Try.f25, go_sem, hc5]
end Go.Proofs.Yticifolljhplmaa
