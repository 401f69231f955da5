/-
  Proved here: wordsOf: how many words an item becomes. Conditions: where the draft lies.
-/
import Derived.Test.YtnooabgdcfegeaaDoorSbb
import Derived.Test.YtnooabgdcfegeaaDoorSbc
import Derived.Test.YtnooabgdcfegeaaDoorSao
namespace Go.Proofs.YtnooabgdcfegeaaDoor
open Go.RowKit Go.Shelf
set_option linter.unusedVariables false
set_option linter.unusedSimpArgs false
set_option maxRecDepth 100000
set_option maxHeartbeats 8000000
attribute [local go_sem] Oper.semAt_some
/-- The cells of items, one behind the other. -/
def ItAt (w : World) (b off : Nat) (is : List Itm) : Prop := ∀ k i, is[k]? = some i → ∀ j u, (itmC i)[j]? = some u → w.cell? ⟨b, off + k * 10 + j, none⟩ = some u
theorem ItAt.nb {a c : World} {b off : Nat} {is : List Itm} (h : ItAt a b off is) (hn : Nb a c) : ItAt c b off is := fun k i hk j u hu => hn.cell (h k i hk j u hu)
/-- The cells of flags. -/
def FlAt (w : World) (b : Nat) (fs : List Bool) : Prop := ∀ (k : Nat) (f : Bool), fs[k]? = some f → w.cell? ⟨b, k, none⟩ = some (.bool f)
theorem FlAt.nb {a c : World} {b : Nat} {fs : List Bool} (h : FlAt a b fs) (hn : Nb a c) : FlAt c b fs := fun k f hk => hn.cell (h k f hk)
/-- A draft: its items, its base, which branches are long. -/
def drV (it : Option Addr) (n cap : Nat) (base : Int) (g c2 : Nat) : Value := .agg #[.slice it n cap, .int .u64 base, .slice (some ⟨g, 0, none⟩) n c2]
theorem getD_set {t : Array Value} {i j : Nat} {v : Value} (h : j ≠ i) : (t.setIfInBounds j v).getD i undef = t.getD i undef := by
  rw [Array.getD_eq_getD_getElem?, Array.getD_eq_getD_getElem?, Array.getElem?_setIfInBounds_ne h]
theorem results_one {fn : Func} {i : Nat} {t t' : Array Value} (hf : fn.results = #[.tmp i]) (h : t.getD i undef = t'.getD i undef) : results fn t = results fn t' := by
  rw [Array.getD_eq_getD_getElem?, Array.getD_eq_getD_getElem?] at h
  unfold results
  rw [hf]
  simp [h]
theorem leavesM_res {F : Fence} {n : Nat} {P : Program} {fn : Func} {t t' : Array Value} {Rs : Ending → World → Prop} (hr : results fn t = results fn t') : ∀ (ds : List Deferred) (u : FrameMode) (w : World), LeavesInM F n P fn t Rs ds u w → LeavesInM F n P fn t' Rs ds u w := by
  intro ds
  induction ds with
  | nil =>
    intro u w h
    cases u with
    | run => exact h
    | returning =>
      obtain ⟨v, hv, hr'⟩ := h
      exact ⟨v, by rw [← hr]; exact hv, hr'⟩
    | panicking c => exact h
  | cons d ds ih =>
    rintro u w ⟨hu, ⟨r, w', h1, h2, h3⟩ | ⟨hn, fv, cap, f, args, h1, h2, h3, h4⟩⟩
    · exact ⟨hu, .inl ⟨r, w', h1, h2, ih _ _ h3⟩⟩
    · refine ⟨hu, .inr ⟨hn, fv, cap, f, args, h1, h2, h3, h4.mono ?_⟩⟩
      rintro e u' w' he
      cases e with
      | returned v => exact ih _ _ he
      | panicked c => exact ih _ _ he
      | outgrown => exact he
theorem wordsOf_any (b off cap g c2 : Nat) (base : Int) (is : List Itm) (fs : List Bool) (hcap : is.length ≤ cap) (hc2 : is.length ≤ c2) (hl : is.length ≤ 100000) (k : Nat) (i : Itm) (f : Bool) (hi : is[k]? = some i) (hf : fs[k]? = some f) (g0 : 0 ≤ i.2.2.2) (g1 : i.2.2.2 < 18446744073709551616) (hIm : ImOk i.2.1) (w : World) (hI : ItAt w b off is) (hF : FlAt w g fs) :
    Calls Tryd.prog 30 #[drV (some ⟨b, off, none⟩) is.length cap base g c2, .int .i64 k] w fun r w' => r = .returned (.int .i64 (insI i 0 0 f).length) ∧ Nb w w' := by
  have hlt : k < is.length := (List.getElem?_eq_some_iff.1 hi).1
  have hP := fun j u hu => hI k i hi j u hu
  have hB := hF k f hf
  have hins := insts_any i 0 0 f (by omega) (by omega) g0 g1 hIm
  have hLl : (insI i 0 0 f).length ≤ 1000 := by
    unfold insI
    have := br_len i.2.1 (farI 0 0) f
    have := conI_len i.2.1.2.1 i.2.2.2
    repeat' split
    all_goals first | omega | simp
  obtain ⟨L, hLe⟩ : ∃ L, insI i 0 0 f = L := ⟨_, rfl⟩
  rw [hLe] at hins hLl ⊢
  clear hi hf hI hF g0 g1 hLe hIm
  obtain ⟨kd, ⟨o1, o2, o3, o4, o5, o6, o7⟩, nm, v⟩ := i
  have p0 : w.cell? ⟨b, off + k * 10, none⟩ = some (.int .i64 kd) := hP 0 _ rfl
  have p1 : w.cell? ⟨b, off + k * 10 + 1, none⟩ = some (.int .i64 o1) := hP 1 _ rfl
  have p2 : w.cell? ⟨b, off + k * 10 + 2, none⟩ = some (.int .i64 o2) := hP 2 _ rfl
  have p3 : w.cell? ⟨b, off + k * 10 + 3, none⟩ = some (.int .i64 o3) := hP 3 _ rfl
  have p4 : w.cell? ⟨b, off + k * 10 + 4, none⟩ = some (.int .i64 o4) := hP 4 _ rfl
  have p5 : w.cell? ⟨b, off + k * 10 + 5, none⟩ = some (.int .i64 o5) := hP 5 _ rfl
  have p6 : w.cell? ⟨b, off + k * 10 + 6, none⟩ = some (.bool o6) := hP 6 _ rfl
  have p7 : w.cell? ⟨b, off + k * 10 + 7, none⟩ = some (.bool o7) := hP 7 _ rfl
  have p8 : w.cell? ⟨b, off + k * 10 + 8, none⟩ = some (.string nm) := hP 8 _ rfl
  have p9 : w.cell? ⟨b, off + k * 10 + 9, none⟩ = some (.int .u64 v) := hP 9 _ rfl
  change ∀ w, Calls Tryd.prog 37 #[.agg #[.int .i64 kd, .int .i64 o1, .int .i64 o2, .int .i64 o3, .int .i64 o4, .int .i64 o5, .bool o6, .bool o7, .string nm, .int .u64 v], .int .u64 0, .int .u64 0, .bool f] w fun r w' => ∃ fv, r = .returned fv ∧ ItOK w w' fv L ∧ Nb w w' at hins
  replace hins := Lib.hid hins
  replace hLl := Lib.hid hLl
  have hb1 : (0 : Int) ≤ (k : Int) := by omega
  have hb2 : (k : Int) < (is.length : Int) := by omega
  unfold drV
  clear hP
  refine (callsIn_wide (n := 1)).1 ?_
  refine callsIn_of_wp_marks Tryd.func30 rfl trivial ?_ rfl
  simp only [Tryd.ntmps30, List.size_toArray, List.length_cons, List.length_nil, Nat.reduceAdd, Nat.reduceSub, Array.replicate_succ, Array.replicate_zero, List.push_toArray, List.append_toArray, List.nil_append, List.cons_append]
  refine wpIn_wide.2 ?_
  go_upto_region 1 with (fail)
  obtain ⟨W1, hW1⟩ : ∃ W1, w.alloc (.cells #[.slice (some ⟨b, off, none⟩) is.length cap, .int .u64 base, .slice (some ⟨g, 0, none⟩) is.length c2] 48) = W1 := ⟨_, rfl⟩
  have n1 : Nb w W1 := by rw [← hW1]; exact Below.alloc (Below.refl _ _) (Nat.le_refl _) _
  have b1 : W1.heap[w.heap.size]? = some (.cells #[.slice (some ⟨b, off, none⟩) is.length cap, .int .u64 base, .slice (some ⟨g, 0, none⟩) is.length c2] 48 (0, 0)) := by rw [← hW1]; exact new_bkc _ _ rfl
  rw [hW1]
  clear hW1
  go_upto_region 2 with (fail)
  obtain ⟨W2, hW2⟩ : ∃ W2, W1.alloc (.cells #[.int .i64 0] 3) = W2 := ⟨_, rfl⟩
  have n2 : Nb W1 W2 := by rw [← hW2]; exact Below.alloc (Below.refl _ _) (Nat.le_refl _) _
  have b2 : W2.heap[W1.heap.size]? = some (.cells #[.int .i64 0] 3 (0, 0)) := by rw [← hW2]; exact new_bkc _ _ rfl
  rw [hW2]
  clear hW2
  have n12 := n1.trans n2
  replace p0 := n12.cell p0
  replace p1 := n12.cell p1
  replace p2 := n12.cell p2
  replace p3 := n12.cell p3
  replace p4 := n12.cell p4
  replace p5 := n12.cell p5
  replace p6 := n12.cell p6
  replace p7 := n12.cell p7
  replace p8 := n12.cell p8
  replace p9 := n12.cell p9
  replace hB := n12.cell hB
  have d0 := n2.cell (cell_of_row _ _ 0 _ _ _ b1)
  have d2 := n2.cell (cell_of_row _ _ 2 _ _ _ b1)
  have hGd : Nb W2 W2.drew := drew1c W2
  refine wp_region_s 1 (by kernel_rfl) ?_
  change wpAnyIn _ _ _ _ _ _ 11 (List.toArray [false, false, false, false, false, false, false, false, false, false, false]) _ _
  refine stage (m := 0) (fuel := 11) (List.toArray [true, true, true, true, true, true, true, true, true, true, true]) (fun w' => Nb W2 w') hGd (fun hG => ?_)
  refine takeS (i := 0) (v := .pointer (some ⟨w.heap.size, 0, none⟩)) rfl (by kernel_rfl) (by kernel_rfl) (by kernel_rfl) (by kernel_rfl) (by kernel_rfl) (fun a _ _ h => by cases a <;> exact leavesM_res (results_one rfl (getD_set (by decide))) _ _ _ h) (.inl ⟨by rfl, by intro w' hw; go_simp⟩) hG ?_
  simp only [Act.put, List.setIfInBounds_toArray, List.set_cons_zero, List.set_cons_succ]
  refine takeS (i := 1) (v := .slice (some ⟨b, off, none⟩) is.length cap) rfl (by kernel_rfl) (by kernel_rfl) (by kernel_rfl) (by kernel_rfl) (by kernel_rfl) (fun a _ _ h => by cases a <;> exact leavesM_res (results_one rfl (getD_set (by decide))) _ _ _ h) (.inl ⟨by rfl, by intro w' hw; have hc := hw.cell d0; go_simp⟩) hG ?_
  simp only [Act.put, List.setIfInBounds_toArray, List.set_cons_zero, List.set_cons_succ]
  refine takeS (i := 2) (v := .int .i64 k) rfl (by kernel_rfl) (by kernel_rfl) (by kernel_rfl) (by kernel_rfl) (by kernel_rfl) (fun a _ _ h => by cases a <;> exact leavesM_res (results_one rfl (getD_set (by decide))) _ _ _ h) (.inl ⟨by rfl, by intro w' hw; go_simp⟩) hG ?_
  simp only [Act.put, List.setIfInBounds_toArray, List.set_cons_zero, List.set_cons_succ]
  refine takeS (i := 3) (v := .pointer (some ⟨b, off + k * 10, none⟩)) rfl (by kernel_rfl) (by kernel_rfl) (by kernel_rfl) (by kernel_rfl) (by kernel_rfl) (fun a _ _ h => by cases a <;> exact leavesM_res (results_one rfl (getD_set (by decide))) _ _ _ h) (.inl ⟨by rfl, by intro w' hw; go_simp⟩) hG ?_
  simp only [Act.put, List.setIfInBounds_toArray, List.set_cons_zero, List.set_cons_succ]
  refine takeS (i := 4) (v := .agg #[.int .i64 kd, .int .i64 o1, .int .i64 o2, .int .i64 o3, .int .i64 o4, .int .i64 o5, .bool o6, .bool o7, .string nm, .int .u64 v]) rfl (by kernel_rfl) (by kernel_rfl) (by kernel_rfl) (by kernel_rfl) (by kernel_rfl) (fun a _ _ h => by cases a <;> exact leavesM_res (results_one rfl (getD_set (by decide))) _ _ _ h) (.inl ⟨by rfl, by intro w' hw; have h0 := hw.cell p0; have h1 := hw.cell p1; have h2 := hw.cell p2; have h3 := hw.cell p3; have h4 := hw.cell p4; have h5 := hw.cell p5; have h6 := hw.cell p6; have h7 := hw.cell p7; have h8 := hw.cell p8; have h9 := hw.cell p9; go_simp⟩) hG ?_
  simp only [Act.put, List.setIfInBounds_toArray, List.set_cons_zero, List.set_cons_succ]
  refine takeS (i := 5) (v := .pointer (some ⟨w.heap.size, 2, none⟩)) rfl (by kernel_rfl) (by kernel_rfl) (by kernel_rfl) (by kernel_rfl) (by kernel_rfl) (fun a _ _ h => by cases a <;> exact leavesM_res (results_one rfl (getD_set (by decide))) _ _ _ h) (.inl ⟨by rfl, by intro w' hw; go_simp⟩) hG ?_
  simp only [Act.put, List.setIfInBounds_toArray, List.set_cons_zero, List.set_cons_succ]
  refine takeS (i := 6) (v := .slice (some ⟨g, 0, none⟩) is.length c2) rfl (by kernel_rfl) (by kernel_rfl) (by kernel_rfl) (by kernel_rfl) (by kernel_rfl) (fun a _ _ h => by cases a <;> exact leavesM_res (results_one rfl (getD_set (by decide))) _ _ _ h) (.inl ⟨by rfl, by intro w' hw; have hc := hw.cell d2; go_simp⟩) hG ?_
  simp only [Act.put, List.setIfInBounds_toArray, List.set_cons_zero, List.set_cons_succ]
  refine takeS (i := 7) (v := .int .i64 k) rfl (by kernel_rfl) (by kernel_rfl) (by kernel_rfl) (by kernel_rfl) (by kernel_rfl) (fun a _ _ h => by cases a <;> exact leavesM_res (results_one rfl (getD_set (by decide))) _ _ _ h) (.inl ⟨by rfl, by intro w' hw; go_simp⟩) hG ?_
  simp only [Act.put, List.setIfInBounds_toArray, List.set_cons_zero, List.set_cons_succ]
  refine takeS (i := 8) (v := .pointer (some ⟨g, k, none⟩)) rfl (by kernel_rfl) (by kernel_rfl) (by kernel_rfl) (by kernel_rfl) (by kernel_rfl) (fun a _ _ h => by cases a <;> exact leavesM_res (results_one rfl (getD_set (by decide))) _ _ _ h) (.inl ⟨by rfl, by intro w' hw; go_simp⟩) hG ?_
  simp only [Act.put, List.setIfInBounds_toArray, List.set_cons_zero, List.set_cons_succ]
  refine takeS (i := 9) (v := .bool f) rfl (by kernel_rfl) (by kernel_rfl) (by kernel_rfl) (by kernel_rfl) (by kernel_rfl) (fun a _ _ h => by cases a <;> exact leavesM_res (results_one rfl (getD_set (by decide))) _ _ _ h) (.inl ⟨by rfl, by intro w' hw; have hc := hw.cell hB; go_simp⟩) hG ?_
  simp only [Act.put, List.setIfInBounds_toArray, List.set_cons_zero, List.set_cons_succ]
  generalize W2.drew = Wd at hG ⊢
  refine onlyS (i := 10) (by kernel_rfl) rfl (by rfl) (fun K hK => ?_)
  go_simp
  refine ⟨trivial, callsIn_wide.2 ((hins.out Wd).mono ?_)⟩
  rintro r W5 ⟨fv, rfl, hIt, h5⟩
  have hG2 := hG
  replace hG := hG.trans h5
  refine hK.out _ _ hG (fun _ => ?_)
  clear hK K
  simp only [Act.put, List.setIfInBounds_toArray, List.set_cons_zero, List.set_cons_succ]
  refine ⟨rfl, ?_⟩
  refine wpAnyIn_done (by kernel_rfl) ?_ _
  go_wp2_with fail
  obtain ⟨gf, lb, rfl, heg, hsq⟩ := hIt
  have e2 := hG.block b2
  have hw2 : W1.heap.size < Wd.heap.size := Nat.lt_of_lt_of_le (lt_bkc b2) hG2.size
  have hw1 : w.heap.size ≤ W1.heap.size := n1.size
  have nW : Nb w W5 := n12.trans hG
  obtain ⟨CB, hCB⟩ : ∃ CB, W1.heap.size = CB := ⟨_, rfl⟩
  rw [hCB] at e2 hw2 hw1 ⊢
  clear b1 b2 hCB hB d0 d2 n1 n2 n12 hGd hG hG2 p0 p1 p2 p3 p4 p5 p6 p7 p8 p9
  refine (wpIn_wide (n := 1)).1 ?_
  refine range_plainO (F := Fence.wide) (n := 1) rfl (Nat.le_refl 1) (gf := gf) (lb := lb) rfl trivial heg
    (hsq (fun _ => false) ⟨fun _ _ => rfl, fun _ _ => rfl, fun _ _ => rfl, fun _ _ => rfl⟩ (fun _ _ => rfl) (fun k => k = CB ∨ k = W5.heap.size + 1) 2 (by rintro k (h | h) <;> omega) 0)
    (fun h k => Kq.trans h k) (fun W o _ => Kq.of_nb (Below.alloc (Below.refl _ _) (Nat.le_refl _) _)) (fun W o o' _ => Kq.putObj W _ _ (.inr rfl)) (Below.refl _ _) (fun _ => rfl)
    (fun (xs : List In7) W => W.heap[CB]? = some (.cells #[.int .i64 xs.length] 3 (0, 0)) ∧ Below w.heap.size w W)
    (fun _ _ _ => False)
    (fun t A B' row hs hg hr => ⟨keptC hs.1 hg (fun r e => (hr r e).2), ownFrom_below (β := List In7) (Nat.le_refl _) (by have := nW.size; omega) t A B' row hs.2 hg hr⟩)
    (fun _ _ _ _ _ hs _ _ => hs)
    ⟨e2, nW⟩
    (fun x => { tmps := #[.agg #[.slice (some ⟨b, off, none⟩) is.length cap, .int .u64 base, .slice (some ⟨g, 0, none⟩) is.length c2], .int .i64 k, .pointer (some ⟨w.heap.size, 0, none⟩), undef, .int .i64 0, .pointer (some ⟨CB, 0, none⟩), .pointer (some ⟨w.heap.size, 0, none⟩), .slice (some ⟨b, off, none⟩) is.length cap, .int .i64 k, .pointer (some ⟨b, off + k * 10, none⟩), .agg #[.int .i64 kd, .int .i64 o1, .int .i64 o2, .int .i64 o3, .int .i64 o4, .int .i64 o5, .bool o6, .bool o7, .string nm, .int .u64 v], .pointer (some ⟨w.heap.size, 2, none⟩), .slice (some ⟨g, 0, none⟩) is.length c2, .int .i64 k, .pointer (some ⟨g, k, none⟩), .bool f, .func (.func gf) #[] lb, .agg (i7C x).toArray, undef, undef, undef], defers := [] }) ?assign ?body ?done ?stop
  case assign =>
    rintro l2 ⟨q1, q2, q3, q4, q5, q6, q7⟩ W K hK
    simp only [i7C] at hK ⊢
    gi_wp2
    simpa using hK
  case body =>
    rintro l2 pre2 x W hBl hIx ⟨hc, hB⟩ hlen2
    have hLx := hLl.out
    have c0 := cell_of_row _ _ 0 _ _ _ hc
    have f0 := frozen_bkc hc 0
    have e1 : IntKind.i64.wrap ((pre2.length : Int) + 1) = (pre2.length : Int) + 1 := by rw [IntKind.wrap_i64]; omega
    gi_wp2
    refine ⟨⟨by simp [World.setCell], fun j o hj hA hc' => ?_⟩, ⟨by simp [World.setCell], fun j o hj hA _ => ?_⟩, ?_, ?_⟩
    · exact (Below.heap_setCell _ _ _ j (fun e => by subst e; rw [hc] at hA; cases hA; cases hc')).trans hA
    · exact (Below.heap_setCell _ _ _ j (fun e => hj (.inl e))).trans hA
    · simpa using set_bkc hc 0 (.int .i64 ((pre2.length : Int) + 1))
    · exact Below.setCell hB hw1 _
  case done =>
    rintro D xs V hD rfl ⟨hc, hB⟩ hK
    have c0 := cell_of_row _ _ 0 _ _ _ hc
    gi_wp2
    go_wp2_with fail
    refine ⟨by simp, .inl ⟨_, _, rfl, run_takeDeferred hK, ?_⟩⟩
    exact ⟨_, results_tmp rfl _ _ _, rfl, hB.trans (belowK_b (w := w) (Nat.le_refl _) V D _ _ (by have := nW.size; omega) hK rfl rfl)⟩
  case stop =>
    rintro D c pre2 V _ _ h _
    exact h.elim
end Go.Proofs.YtnooabgdcfegeaaDoor
