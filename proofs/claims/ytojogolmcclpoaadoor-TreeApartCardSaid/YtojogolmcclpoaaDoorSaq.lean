/-
  Proved here: of the code: how deep a program is. Conditions: the memory holds it.
-/
import Derived.Test.YtojogolmcclpoaaDoorSam
import Derived.Test.YtojogolmcclpoaaDoorSaj
import Derived.Test.YtojogolmcclpoaaDoorSap
import Derived.RangeFuncFrom
import Derived.Shelf.Abstract
import Derived.OwnWalkIn
import Derived.TacticsInMore
namespace Go.Proofs.YtojogolmcclpoaaDoor
open Go.RowKit Go.Shelf
set_option linter.unusedVariables false
set_option linter.unusedSimpArgs false
set_option maxRecDepth 100000
set_option maxHeartbeats 4000000
attribute [local go_sem] Oper.semAt_some
theorem parts_any (e : Pg) (w : World) : Calls Tryd.prog 13 #[.agg e.cells.toArray] w fun r w' => r = .returned (.func (.func 23) #[] #[.pointer (some ⟨w.heap.size, 0, none⟩)]) ∧ w' = w.alloc (.cells e.cells.toArray 25) := by
  go_enter Tryd.func13, Tryd.ntmps13
  go_wp2_with fail
  go_ret
  exact ⟨rfl, rfl⟩
/-- **parts hands back a value that ranges over a program's parts**: all of them, in order, or a part. -/
theorem parts_stops (W0 : World) (hi n : Nat) (e : Pg) (he : e.Has W0) (PB : Nat) (w : World) (hW : Nb W0 w) (hhi : hi ≤ PB) (hPB : w.heap[PB]? = some (.cells e.cells.toArray 25 (0, 0))) :
    SeqStopsK Fence.wide n Tryd.prog 23 #[.pointer (some ⟨PB, 0, none⟩)] (fun x : Pt => #[Value.int .i64 x.1, .agg x.2.cells]) (Kp W0.heap.size hi) (fun xs => xs = flP e) (fun pre => pre <+: flP e) (flP e).length w := fun l J Jx W hWb hJ hJx hY h0 => by
  refine callsIn_wide.2 ((parts1_any W0 hi l (flP e).length J Jx ?_ ?_ e he PB W (hW.trans hWb) hhi (Nb.block (a := w) hWb hPB) h0 (Nat.le_refl _)).mono ?_)
  · exact fun pre W1 W2 h k => hJ pre W1 W2 none h ⟨k.os, k.tape, k.output, k.size, fun i hi _ => Below.block k i hi⟩ (fun r e => nomatch e)
  · intro m pre x W1 _ hj hl
    obtain ⟨fn, tmps, assign, body, hy, hR⟩ := hY pre x W1 hj hl
    exact ⟨fn, tmps, assign, body, hy, RoundIn.anyDepth' hR⟩
  · rintro r W' ⟨hv, h | ⟨pre, hp, hx⟩⟩
    · exact ⟨hv, .inl ⟨_, rfl, h⟩⟩
    · exact ⟨hv, .inr ⟨pre, hp, hx⟩⟩
theorem Kp.setCell {lo hi : Nat} (W : World) {a : Addr} (h1 : lo ≤ a.block) (h2 : a.block < hi) (v : Value) : Kp lo hi W (W.setCell a v) :=
  ⟨(Below.refl lo W).setCell h1 v, fun k o hk hA _ => (Below.heap_setCell W a v k (by omega)).trans hA⟩
/-- The greatest level. -/
def lvM (l : List Pt) : Nat := maxL (l.map (·.1))
theorem maxL_append (a b : List Nat) : maxL (a ++ b) = max (maxL a) (maxL b) := by
  induction a with
  | nil => simp [maxL]
  | cons x a ih => simp only [List.cons_append, maxL, ih]; omega
theorem lvM_snoc (pre : List Pt) (x : Pt) : lvM (pre ++ [x]) = max (lvM pre) x.1 := by
  unfold lvM
  rw [List.map_append, maxL_append]
  simp [maxL]
theorem lvM_append (a b : List Pt) : lvM (a ++ b) = max (lvM a) (lvM b) := by unfold lvM; rw [List.map_append, maxL_append]
theorem lvM_cons (x : Pt) (b : List Pt) : lvM (x :: b) = max x.1 (lvM b) := rfl
theorem lvM_prefix {a b : List Pt} (h : a <+: b) : lvM a ≤ lvM b := by
  obtain ⟨t, rfl⟩ := h
  rw [lvM_append]
  omega
theorem lvM_flatten {α : Type} (f : α → List Pt) (l : List α) : lvM (l.map f).flatten = maxL (l.map fun x => lvM (f x)) := by
  induction l with
  | nil => rfl
  | cons x l ih =>
    rw [List.map_cons, List.flatten_cons, lvM_append, ih]
    rfl
/-- A depth d below level 65 - k, as a level. -/
def up (k d : Nat) : Nat := if d = 0 then 0 else 65 - k + d
theorem up_max (k a b : Nat) : up k (max a b) = max (up k a) (up k b) := by unfold up; split <;> split <;> split <;> omega
theorem up_maxL {α : Type} (k : Nat) (f : α → Nat) (l : List α) : maxL (l.map fun x => up k (f x)) = up k (maxL (l.map f)) := by
  induction l with
  | nil => rfl
  | cons x l ih =>
    show max (up k (f x)) (maxL (l.map fun x => up k (f x))) = up k (max (f x) (maxL (l.map f)))
    rw [ih, up_max]
theorem maxL_congr {α : Type} {f g : α → Nat} {l : List α} (h : ∀ x ∈ l, f x = g x) : maxL (l.map f) = maxL (l.map g) := by rw [List.map_congr_left h]
theorem up_head {k d : Nat} (hk : k < 65) : max (65 - k) (up k d) = up (k + 1) (1 + d) := by unfold up; split <;> split <;> omega
theorem lvM_flE (h : Ex → Hd) : ∀ (k : Nat), k ≤ 65 → ∀ e : Ex, lvM (flE h k e) = up k (dpE k e)
  | 0, _, e => rfl
  | k + 1, hk, e => by
    rw [flE, lvM_cons, lvM_flatten, maxL_congr (fun x _ => lvM_flE h k (by omega) x), up_maxL, up_head (by omega)]
    rfl
theorem lvM_flEs (h : Ex → Hd) (k : Nat) (hk : k ≤ 65) (l : List Ex) : lvM (flEs h k l) = up k (dpEs k l) := by
  unfold flEs
  rw [lvM_flatten, maxL_congr (fun x _ => lvM_flE h k hk x), up_maxL]
  rfl
theorem lvM_flB : ∀ (k : Nat), k ≤ 65 → ∀ b : Bd, lvM (flB k b) = up k (dpB k b)
  | 0, _, b => rfl
  | k + 1, hk, b => by
    have hk2 : k ≤ 65 := by omega
    have h1 : ∀ s : St, lvM (flS k s) = max (65 - k) (up k (dpEs k s.args)) := fun s => by rw [flS, lvM_cons, lvM_flEs _ _ hk2]
    have h2 : ∀ m : Am, lvM ((65 - k, hdA m) :: (flE hdT k m.pat ++ flEs hdE k m.guard ++ flB k m.body)) = max (65 - k) (up k (max (dpE k m.pat) (max (dpEs k m.guard) (dpB k m.body)))) := fun m => by
      rw [lvM_cons, lvM_append, lvM_append, lvM_flE _ _ hk2, lvM_flEs _ _ hk2, lvM_flB k hk2, up_max, up_max]
      omega
    have h3 : ∀ {α : Type} (f : α → Nat) (l : List α), max (65 - k) (maxL (l.map fun x => max (65 - k) (f x))) = max (65 - k) (maxL (l.map f)) := fun f l => by
      induction l with
      | nil => rfl
      | cons x l ih =>
        show max (65 - k) (max (max (65 - k) (f x)) (maxL (l.map fun x => max (65 - k) (f x)))) = max (65 - k) (max (f x) (maxL (l.map f)))
        omega
    have h4 := h3 (fun s : St => up k (dpEs k s.args)) b.stmts
    have h5 := h3 (fun m : Am => up k (max (dpE k m.pat) (max (dpEs k m.guard) (dpB k m.body)))) b.arms
    rw [up_maxL] at h4 h5
    rw [flB, lvM_cons, lvM_append, lvM_append, lvM_append, lvM_flatten, lvM_flatten, lvM_flatten, lvM_flEs _ _ hk2, maxL_congr (fun s _ => h1 s), maxL_congr (fun m _ => h2 m), maxL_congr (fun x _ => lvM_flB k hk2 x), up_maxL]
    have h6 : max (65 - k) (max (max (max (maxL (b.stmts.map fun s => max (65 - k) (up k (dpEs k s.args)))) (up k (dpEs k b.args))) (up k (maxL (b.parts.map (dpB k))))) (maxL (b.arms.map fun m => max (65 - k) (up k (max (dpE k m.pat) (max (dpEs k m.guard) (dpB k m.body))))))) = max (65 - k) (up k (max (dpEs k b.args) (max (maxL (b.stmts.map fun s => dpEs k s.args)) (max (maxL (b.parts.map (dpB k))) (maxL (b.arms.map fun m => max (dpE k m.pat) (max (dpEs k m.guard) (dpB k m.body)))))))) := by
      rw [up_max, up_max, up_max]
      omega
    refine h6.trans ?_
    rw [up_head (by omega)]
    rfl
theorem lvM_flD (d : Df) : lvM (flD d) = up 65 (dpB 65 d.body) := by
  unfold flD
  rw [lvM_cons, lvM_append, lvM_flB 65 (Nat.le_refl _)]
  have h : lvM (d.params.map fun s => (0, hdM s)) = 0 := by
    generalize d.params = l
    induction l with
    | nil => rfl
    | cons x l ih => rw [List.map_cons, lvM_cons, ih]; rfl
  rw [h]
  simp
theorem up_65 (d : Nat) : up 65 d = d := by unfold up; split <;> omega
theorem lvM_flP (p : Pg) : lvM (flP p) = dpP p := by
  unfold flP dpP
  rw [lvM_cons, lvM_append, lvM_flatten, maxL_congr (fun d _ => lvM_flD d), lvM_flEs _ _ (Nat.le_refl _)]
  simp only [up_65]
  show max 0 _ = _
  omega
theorem maxL_le' {l : List Nat} {k : Nat} (h : ∀ x ∈ l, x ≤ k) : maxL l ≤ k := by
  induction l with
  | nil => exact Nat.zero_le _
  | cons x r ih =>
    have h1 := h x (List.mem_cons_self ..)
    have h2 := ih fun y hy => h y (List.mem_cons_of_mem _ hy)
    show max x (maxL r) ≤ k
    omega
theorem dpP_le (p : Pg) : dpP p ≤ 65 := by
  unfold dpP
  have h1 := dpEs_le 65 p.args
  have h2 : maxL (p.defs.map fun d => dpB 65 d.body) ≤ 65 := maxL_le' fun x hx => by
    obtain ⟨d, _, rfl⟩ := List.mem_map.1 hx
    exact dpB_le 65 d.body
  omega
theorem depth_any (W00 : World) (e : Pg) (he0 : e.Has W00) (w : World) (hw : Nb W00 w) :
    Calls Tryd.prog 12 #[.agg e.cells.toArray] w fun r w' => r = .returned (.int .i64 ((dpP e : Nat) : Int)) ∧ Nb w w' := by
  have he := he0.nb hw
  obtain ⟨n, hn⟩ : ∃ n : Nat, n = 5 := ⟨_, rfl⟩
  have h1 : 1 ≤ n := by omega
  refine (callsIn_wide (n := n)).1 ?_
  refine callsIn_of_wp_marks Tryd.func12 rfl trivial ?_ rfl
  simp only [Tryd.ntmps12, List.size_toArray, List.length_cons, List.length_nil, Nat.reduceAdd, Nat.reduceSub, Array.replicate_succ, Array.replicate_zero, List.push_toArray, List.append_toArray, List.nil_append, List.cons_append]
  refine wpIn_wide.2 ?_
  go_upto_region 2 with (fail)
  obtain ⟨W1, hW1⟩ : ∃ W1, (w.alloc (Obj.cells e.cells.toArray 25)).alloc (Obj.cells #[.int .i64 0] 3) = W1 := ⟨_, rfl⟩
  have n1 : Nb w W1 := by rw [← hW1]; exact ((Nb.refl w).alloc _).alloc _
  have b1 : W1.heap[w.heap.size]? = some (.cells e.cells.toArray 25 (0, 0)) := by rw [← hW1]; exact old_blk (new_blk w _ rfl) _
  have d1 : W1.heap[w.heap.size + 1]? = some (.cells #[.int .i64 0] 3 (0, 0)) := by rw [← hW1]; exact new_blk _ _ (by rw [World.size_alloc])
  have s1 : W1.heap.size = w.heap.size + 1 + 1 := by rw [← hW1]; simp
  rw [hW1]
  clear hW1
  go_wp2_with (first
    | (refine wpList_load_row rfl 25 (.tmp 1) rfl w.heap.size rfl 25 e.cells.toArray (0, 0) _ b1 Tryd.underlying25 rfl (show (Tryd.prog.info? 25).map (·.size) = some 4 by kernel_rfl) ?_)
    | (go_at_call 13; refine (parts_any e _).mono ?_; rintro r w2 ⟨rfl, rfl⟩))
  obtain ⟨W2, hW2⟩ : ∃ W2, W1.alloc (Obj.cells e.cells.toArray 25) = W2 := ⟨_, rfl⟩
  have g2 : Nb W1 W2 := by rw [← hW2]; exact alloc_nb _ _
  have p2 : W2.heap[w.heap.size + 1 + 1]? = some (.cells e.cells.toArray 25 (0, 0)) := by rw [← hW2]; exact new_blk _ _ s1
  have s2 : W2.heap.size = w.heap.size + 1 + 1 + 1 := by rw [← hW2, World.size_alloc, s1]
  have n2 := n1.trans g2
  have d2 := g2.block d1
  rw [hW2]
  clear hW2 b1 d1 s1
  have q2 : W2.cell? ⟨w.heap.size + 1, 0, none⟩ = some (.int .i64 0) := cell_of_row _ _ 0 _ _ _ d2
  have f2 : W2.frozen? ⟨w.heap.size + 1, 0, none⟩ = false := frozen_blk d2 0
  have heh := Lib.hid (he.nb n2)
  obtain ⟨M, hM⟩ : ∃ M, lvM (flP e) = M := ⟨_, rfl⟩
  have hMd : dpP e = M := by rw [← hM, lvM_flP]
  refine (wpIn_wide (n := n)).1 ?_
  refine wpIn_rangeFunc_ownF rfl h1 (gf := 23) (lb := #[.pointer (some ⟨w.heap.size + 1 + 1, 0, none⟩)]) rfl trivial (enters_of Tryd.func23 (by kernel_rfl) rfl)
    (parts_stops w (w.heap.size + 1 + 1) (n - 1) e he (w.heap.size + 1 + 1) W2 n2 (Nat.le_refl _) p2) (fun h k => Kp.trans h k) (fun W l o o' hl hW ho _ => Kp.putObj W l o o' (by omega) hW ho) (Below.refl _ _) (fun _ => rfl)
    (fun (pre : List Pt) W => (lvM pre ≤ 64 ∧ W.cell? ⟨w.heap.size + 1, 0, none⟩ = some (.int .i64 (lvM pre : Nat)) ∧ W.frozen? ⟨w.heap.size + 1, 0, none⟩ = false) ∧ Below w.heap.size w W)
    (fun c (pre : List Pt) W => (c = .exit 0 ∧ 64 < lvM pre ∧ W.cell? ⟨w.heap.size + 1, 0, none⟩ = some (.int .i64 (lvM pre : Nat))) ∧ Below w.heap.size w W)
    (OwnFrom.and (Own.from (fun s A B row hs hg hr => ⟨hs.1, cell_kept hs.2.1 hg hr, (frozen_kept hs.2.1 hg hr).trans hs.2.2⟩) _) (ownFrom_below (Nat.le_refl _) (by omega)))
    (fun c => OwnFrom.and (Own.from (fun s A B row hs hg hr => ⟨hs.1, hs.2.1, cell_kept hs.2.2 hg hr⟩) _) (ownFrom_below (Nat.le_refl _) (by omega)))
    ⟨⟨Nat.zero_le _, q2, f2⟩, n2⟩
    (fun x : Pt => { tmps := #[.agg e.cells.toArray, .pointer (some ⟨w.heap.size, 0, none⟩), .int .i64 0, .pointer (some ⟨w.heap.size + 1, 0, none⟩), .int .i64 x.1, .agg e.cells.toArray, .func (.func 23) #[] #[.pointer (some ⟨w.heap.size + 1 + 1, 0, none⟩)], .int .i64 x.1, .agg x.2.cells, undef, undef, undef, undef, undef, undef], defers := [] }) ?assign ?body ?done ?stop
  case assign =>
    intro l x W K hK
    gi_wp2
    exact hK
  case body =>
    rintro l pre x W ⟨⟨hle, hc0, hfr⟩, hB⟩ _
    have hmx := lvM_snoc pre x
    have ifm := if_max
    by_cases hb : 64 < lvM (pre ++ [x])
    · have hx1 : lvM (pre ++ [x]) = x.1 := by rw [hmx]; omega
      have hx2 : 64 < x.1 := by omega
      have hx3 : (64 : Int) < (x.1 : Int) := by omega
      have hx4 : max (lvM pre) x.1 = x.1 := by omega
      gi_wp2
      refine ⟨KeepsOthers.setCell _ _ _, ⟨rfl, hb, ?_⟩, hB.setCell (p := ⟨w.heap.size + 1, 0, none⟩) (by simp) _⟩
      rw [World.cell?_setCell_same' _ _ _ (by rw [hc0]; rfl), hx1]
    · have hx2 : ¬ (64 < max (lvM pre) x.1) := by rw [← hmx]; exact hb
      have hx3 : ¬ ((64 : Int) < ((max (lvM pre) x.1 : Nat) : Int)) := by omega
      gi_wp2
      refine ⟨KeepsOthers.setCell _ _ _, Kp.setCell _ (by simp) (by simp) _, ⟨by omega, ?_, by rw [World.frozen?_setCell]; exact hfr⟩, hB.setCell (p := ⟨w.heap.size + 1, 0, none⟩) (by simp) _⟩
      rw [World.cell?_setCell_same' _ _ _ (by rw [hc0]; rfl), hmx]
  case done =>
    rintro D ys W hD rfl ⟨⟨hle, hcr, hfr⟩, hB⟩ hK
    rw [hM] at hcr hle
    go_wp2_with fail
    refine ⟨by simp, .inl ⟨_, _, rfl, run_takeDeferred hK, ?_⟩⟩
    exact ⟨_, results_tmp rfl _ _ _, by rw [hMd]; rfl, hB.trans (belowK_b (w := w) (Nat.le_refl _) W D _ _ (by omega) hK rfl rfl)⟩
  case stop =>
    rintro D c pre W hD hpre ⟨⟨rfl, hgt, hcr⟩, hB⟩ hK
    have hpm : lvM pre = M := by
      have h1 := lvM_prefix hpre
      have h2 := dpP_le e
      rw [hM] at h1
      omega
    rw [hpm] at hcr
    gi_wp2
    go_wp2_with fail
    refine ⟨by simp, .inl ⟨_, _, rfl, run_takeDeferred hK, ?_⟩⟩
    exact ⟨_, results_tmp rfl _ _ _, by rw [hMd]; rfl, hB.trans (belowK_b (w := w) (Nat.le_refl _) W D _ _ (by omega) hK rfl rfl)⟩
end Go.Proofs.YtojogolmcclpoaaDoor
