/-
  Proved here: what a constant's iterator yields, of any word. Conditions: the loop's rounds keep what they promise.
-/
import Derived.Test.YtnooabgdcfegeaaDoorSap
import Derived.Test.YtnooabgdcfegeaaDoorSar
import Derived.Test.YtnooabgdcfegeaaDoorSas
namespace Go.Proofs.YtnooabgdcfegeaaDoor
open Go.RowKit Go.Shelf
set_option linter.unusedVariables false
set_option linter.unusedSimpArgs false
set_option maxRecDepth 100000
set_option maxHeartbeats 8000000
attribute [local go_sem] Oper.semAt_some
/-- The iterator of a number yields that list, whatever the rounds do. -/
def ConOK (rd v : Int) (L : List In7) : Prop := ∀ (X : Obj → Bool) (R : Nat → Prop) (l N B : Nat) (J Jx : List In7 → World → Prop), XOk X → OwnFrom B J → OwnFrom B Jx → YldI X R l N J Jx → ∀ (VB RB : Nat), ¬ R VB → ¬ R RB →
  ∀ (pre : List In7) (W : World), B ≤ W.heap.size → (∀ k, R k → k < W.heap.size) → W.heap[VB]? = some (.cells #[.int .u64 v] 23 (0, 0)) → W.heap[RB]? = some (.cells #[.int .i64 rd] 3 (0, 0)) → J pre W → pre.length + L.length ≤ N →
  Calls Tryd.prog 51 #[.func (.yield l) #[] #[], .pointer (some ⟨VB, 0, none⟩), .pointer (some ⟨RB, 0, none⟩)] W (Went J Jx pre L)
theorem RoundIn.anyDepthC {m m' : Nat} {P : Program} {l : Nat} {f : FuncId} {tmps : Array Value} {assign body : Code} {w : World} {R : Ending → World → Prop}
    (h : RoundIn Fence.wide m P l f tmps assign body w R) : RoundIn Fence.wide m' P l f tmps assign body w R := ⟨h.1, fun c cs _ => h.2 c cs (room_wide _)⟩
theorem con_seq {rd v : Int} {L : List In7} (h : ConOK rd v L) (X : Obj → Bool) (hX : XOk X) (R : Nat → Prop) (n VB RB : Nat) (hVB : ¬ R VB) (hRB : ¬ R RB) (w : World)
    (hV : w.heap[VB]? = some (.cells #[.int .u64 v] 23 (0, 0))) (hR : w.heap[RB]? = some (.cells #[.int .i64 rd] 3 (0, 0))) (e : Nat) (hRl : ∀ k, R k → k < w.heap.size + e) :
    SeqStopsO Fence.wide n Tryd.prog 51 #[.pointer (some ⟨VB, 0, none⟩), .pointer (some ⟨RB, 0, none⟩)] (fun (i : In7) => #[.agg (i7C i).toArray]) (Kq X R) ImOk e (fun xs => xs = L) (fun q => q <+: L) L.length w := by
  intro l J Jx W hb hl hz hJ hJx hY h0
  refine callsIn_wide.2 ((h X R l L.length W.heap.size J Jx hX hJ hJx ?_ VB RB hVB hRB [] W (Nat.le_refl _) (fun k hk => by have := hRl k hk; omega) ((hb.block VB (lt_bkc hV)).trans hV) ((hb.block RB (lt_bkc hR)).trans hR) h0 (by simp)).mono ?_)
  · intro m pre x W1 hx hj hlen
    obtain ⟨fn, tmps, assign, body, hy, hRd⟩ := hY pre x W1 hx hj hlen
    exact ⟨fn, tmps, assign, body, hy, RoundIn.anyDepthC hRd⟩
  · rintro r W' ⟨hr, hj | ⟨q, hq, hx⟩⟩
    · exact ⟨hr, .inl ⟨_, rfl, by simpa using hj⟩⟩
    · exact ⟨hr, .inr ⟨q, hq, by simpa using hx⟩⟩
theorem leavesIn_tmps {F : Fence} {n : Nat} {P : Program} {fn : Func} {t t' : Array Value} {Rs : Ending → World → Prop} (hf : fn.results = #[]) : ∀ (u : FrameMode) (w : World), LeavesIn F n P fn t Rs [] u w → LeavesIn F n P fn t' Rs [] u w := by
  intro u w h
  cases u with
  | run => exact h
  | returning =>
    obtain ⟨v, hv, hr⟩ := h
    exact ⟨v, by rw [results_none hf] at hv ⊢; exact hv, hr⟩
  | panicking c => exact h
theorem leavesM_tmps {F : Fence} {n : Nat} {P : Program} {fn : Func} {t t' : Array Value} {Rs : Ending → World → Prop} (hf : fn.results = #[]) : ∀ (ds : List Deferred) (u : FrameMode) (w : World), LeavesInM F n P fn t Rs ds u w → LeavesInM F n P fn t' Rs ds u w := by
  intro ds
  induction ds with
  | nil => exact leavesIn_tmps hf
  | cons d ds ih =>
    rintro u w ⟨hu, ⟨r, w', h1, h2, h3⟩ | ⟨hn, fv, cap, f, args, h1, h2, h3, h4⟩⟩
    · exact ⟨hu, .inl ⟨r, w', h1, h2, ih _ _ h3⟩⟩
    · refine ⟨hu, .inr ⟨hn, fv, cap, f, args, h1, h2, h3, h4.mono ?_⟩⟩
      rintro e u' w' he
      cases e with
      | returned v => exact ih _ _ he
      | panicked c => exact ih _ _ he
      | outgrown => exact he
theorem keptC {A B : World} {row : Option Nat} {k : Nat} {cs : Array Value} {t : TypeId} {fr : Nat × Nat} (h : A.heap[k]? = some (.cells cs t fr)) (hg : A.grownBy B row) (hr : ∀ r, row = some r → ∃ o : Obj, A.heap[r]? = some o ∧ o.isCells = false) : B.heap[k]? = some (.cells cs t fr) :=
  (hg.block k (lt_bkc h) (fun e => by obtain ⟨o, ho, hc⟩ := hr k e.symm; rw [h] at ho; cases ho; cases hc)).trans h
theorem con_64 (X : Obj → Bool) (hX : XOk X) (R : Nat → Prop) (l N B : Nat) (J Jx : List In7 → World → Prop) (hJ : OwnFrom B J) (hJx : OwnFrom B Jx) (hY : YldI X R l N J Jx) (rd v : Int) (h0 : 0 ≤ v) (h1 : v < 18446744073709551616) (hf : FitB (wrap64 v) 12 = false) (hg : FitB (wrap64 v) 32 = false)
    (L1 : List In7) (hC : ConOK rd (hiI v) L1) (VB RB : Nat) (hVB : ¬ R VB) (hRB : ¬ R RB) (pre : List In7) (W : World) (hB : B ≤ W.heap.size) (hhi : ∀ k, R k → k < W.heap.size) (hV : W.heap[VB]? = some (.cells #[.int .u64 v] 23 (0, 0))) (hR : W.heap[RB]? = some (.cells #[.int .i64 rd] 3 (0, 0))) (hj : J pre W)
    (hN : pre.length + (L1 ++ (28, rd, rd, 0, 12, false, false) :: talI 22 rd v).length ≤ N) :
    Calls Tryd.prog 51 #[.func (.yield l) #[] #[], .pointer (some ⟨VB, 0, none⟩), .pointer (some ⟨RB, 0, none⟩)] W (Went J Jx pre (L1 ++ (28, rd, rd, 0, 12, false, false) :: talI 22 rd v)) := by
  have hfit := Lib.hid (fits_any (wrap64 v) 12 (wrap64_r v).1 (wrap64_r v).2)
  rw [hf] at hfit
  have hfit2 := Lib.hid (fits_any (wrap64 v) 32 (wrap64_r v).1 (wrap64_r v).2)
  rw [hg] at hfit2
  have hlow := Lib.hid (low_any v h0 h1)
  have hmore := more_any 22 rd v h0 h1
  change ∀ w, Calls Tryd.prog 54 #[.int .i64 22, .int .i64 rd, .int .u64 v] w fun e w' => e = .returned (.agg #[.int .i64 22, .int .i64 rd, .int .i64 rd, .int .i64 0, .int .i64 (wrap64 (Sgn v 12)), .bool false, .bool false]) ∧ Nb w w' at hmore
  replace hmore := Lib.hid hmore
  have hYh := Lib.hid hY
  have hJh := Lib.hid hJ
  have hlen0 := Lib.hid hN
  have hj0 := Lib.hid hj
  have hCh := Lib.hid hC
  clear hf hg hY hJ hN hj hC
  refine (callsIn_wide (n := 1)).1 ?_
  refine callsIn_of_wp_marks Tryd.func51 rfl trivial ?_ rfl
  simp only [Tryd.ntmps51, List.size_toArray, List.length_cons, List.length_nil, Nat.reduceAdd, Nat.reduceSub, Array.replicate_succ, Array.replicate_zero, List.push_toArray, List.append_toArray, List.nil_append, List.cons_append]
  refine wpIn_wide.2 ?_
  go_upto_region 1 with (fail)
  obtain ⟨W1, hW1⟩ : ∃ W1, W.alloc (.cells #[.func (.yield l) #[] #[]] 87) = W1 := ⟨_, rfl⟩
  have n1 : Nb W W1 := by rw [← hW1]; exact Below.alloc (Below.refl _ _) (Nat.le_refl _) _
  have b1 : W1.heap[W.heap.size]? = some (.cells #[.func (.yield l) #[] #[]] 87 (0, 0)) := by rw [← hW1]; exact new_bkc _ _ rfl
  rw [hW1]
  clear hW1
  have b2 := n1.block hV
  have b3 := n1.block hR
  clear hV hR
  obtain ⟨YB, hYB⟩ : ∃ B, W.heap.size = B := ⟨_, rfl⟩
  rw [hYB] at b1 hhi hB ⊢
  have hRY : ¬ R YB := fun h => by have := hhi _ h; omega
  have hn1z : YB < W1.heap.size := lt_bkc b1
  have c1 := cell_of_row _ _ 0 _ _ _ b1
  have c2 := cell_of_row _ _ 0 _ _ _ b2
  have c3 := cell_of_row _ _ 0 _ _ _ b3
  go_upto_region 2 with (first
    | (go_at_call 33; refine (hfit.out _).mono ?_; clear hfit; rintro r w' ⟨rfl, hww⟩; subst hww)
    | (go_at_call 33; refine (hfit2.out _).mono ?_; clear hfit2; rintro r w' ⟨rfl, hww⟩; subst hww))
  have hGd : Nb W1 W1.drew := drew1c W1
  have e5 : IntKind.i64.wrap (IntKind.u64.wrap (v - Sgn v 12)) = wrap64 (IntKind.u64.wrap (v - Sgn v 12)) := by rw [IntKind.wrap_i64]; unfold wrap64; omega
  refine wp_region_late [] (fun _ => True) (fun w' => Nb W1 w') (by kernel_rfl) ⟨fun _ => trivial, hGd⟩ (fun _ => ?_)
  change wpAnyL _ _ _ _ _ _ _ 9 (List.toArray [false, false, false, false, false, false, false, false, false]) _ _
  refine takeG_l (i := 0) (v := .int .i64 rd) rfl (by kernel_rfl) (by kernel_rfl) (by kernel_rfl) (by rfl) (fun a _ _ h => by cases a <;> exact leavesM_tmps rfl _ _ _ h) (.inl ⟨by rfl, by intro w' hw; have hc := hw.cell c3; go_simp⟩) ⟨fun _ => trivial, hGd⟩ ?_
  simp only [Act.put, List.setIfInBounds_toArray, List.set_cons_zero, List.set_cons_succ]
  refine takeG_l (i := 1) (v := .int .u64 v) rfl (by kernel_rfl) (by kernel_rfl) (by kernel_rfl) (by rfl) (fun a _ _ h => by cases a <;> exact leavesM_tmps rfl _ _ _ h) (.inl ⟨by rfl, by intro w' hw; have hc := hw.cell c2; go_simp⟩) ⟨fun _ => trivial, hGd⟩ ?_
  simp only [Act.put, List.setIfInBounds_toArray, List.set_cons_zero, List.set_cons_succ]
  refine takeG_l (i := 2) (v := .int .u64 v) rfl (by kernel_rfl) (by kernel_rfl) (by kernel_rfl) (by rfl) (fun a _ _ h => by cases a <;> exact leavesM_tmps rfl _ _ _ h) (.inl ⟨by rfl, by intro w' hw; have hc := hw.cell c2; go_simp⟩) ⟨fun _ => trivial, hGd⟩ ?_
  simp only [Act.put, List.setIfInBounds_toArray, List.set_cons_zero, List.set_cons_succ]
  obtain ⟨Wd, hWd⟩ : ∃ Wd, W1.drew = Wd := ⟨_, rfl⟩
  rw [hWd] at hGd ⊢
  have hG := hGd
  have hGk := hGd
  clear hGd hWd
  refine onlyL_l (i := 3) (by kernel_rfl) rfl (by rfl) (fun K hK => ?_)
  go_simp
  refine (hlow.out Wd).mono ?_
  rintro r w5 ⟨rfl, hww⟩
  obtain rfl := hww.symm
  refine hK.out _ _ ⟨fun _ => trivial, hG⟩ (fun _ => ?_)
  clear hK K
  simp only [Act.put, List.setIfInBounds_toArray, List.set_cons_zero, List.set_cons_succ]
  refine takeG_l (i := 4) (v := .int .u64 (IntKind.u64.wrap (v - Sgn v 12))) rfl (by kernel_rfl) (by kernel_rfl) (by kernel_rfl) (by rfl) (fun a _ _ h => by cases a <;> exact leavesM_tmps rfl _ _ _ h) (.inl ⟨by rfl, by intro w' hw; go_simp⟩) ⟨fun _ => trivial, hG⟩ ?_
  simp only [Act.put, List.setIfInBounds_toArray, List.set_cons_zero, List.set_cons_succ]
  refine takeG_l (i := 5) (v := .int .i64 (wrap64 (IntKind.u64.wrap (v - Sgn v 12)))) rfl (by kernel_rfl) (by kernel_rfl) (by kernel_rfl) (by rfl) (fun a _ _ h => by cases a <;> exact leavesM_tmps rfl _ _ _ h) (.inl ⟨by rfl, by intro w' hw; go_simp⟩) ⟨fun _ => trivial, hG⟩ ?_
  simp only [Act.put, List.setIfInBounds_toArray, List.set_cons_zero, List.set_cons_succ]
  refine takeG_l (i := 6) (v := .int .i64 (wrap64 (IntKind.u64.wrap (v - Sgn v 12)) / 4096)) rfl (by kernel_rfl) (by kernel_rfl) (by kernel_rfl) (by rfl) (fun a _ _ h => by cases a <;> exact leavesM_tmps rfl _ _ _ h) (.inl ⟨by rfl, by intro w' hw; go_simp⟩) ⟨fun _ => trivial, hG⟩ ?_
  simp only [Act.put, List.setIfInBounds_toArray, List.set_cons_zero, List.set_cons_succ]
  refine takeG_l (i := 7) (v := .int .u64 (IntKind.u64.wrap (wrap64 (IntKind.u64.wrap (v - Sgn v 12)) / 4096))) rfl (by kernel_rfl) (by kernel_rfl) (by kernel_rfl) (by rfl) (fun a _ _ h => by cases a <;> exact leavesM_tmps rfl _ _ _ h) (.inl ⟨by rfl, by intro w' hw; go_simp⟩) ⟨fun _ => trivial, hG⟩ ?_
  simp only [Act.put, List.setIfInBounds_toArray, List.set_cons_zero, List.set_cons_succ]
  refine onlyL_l (i := 8) (by kernel_rfl) rfl (by rfl) (fun K hK => ?_)
  go_simp
  refine (constant_any _ _ Wd).mono ?_
  rintro r w6 ⟨rfl, hw6⟩
  have g6 : Nb Wd w6 := by rw [hw6]; exact Below.alloc (Below.alloc (Below.refl _ _) (Nat.le_refl _) _) (by rw [World.size_alloc]; omega) _
  have d3 : w6.heap[Wd.heap.size]? = some (.cells #[.int .i64 rd] 3 (0, 0)) := by rw [hw6]; exact Nb.block (show Nb _ _ from Below.alloc (Below.refl _ _) (Nat.le_refl _) _) (new_bkc _ _ rfl)
  have d2 : w6.heap[Wd.heap.size + 1]? = some (.cells #[.int .u64 (hiI v)] 23 (0, 0)) := by rw [hw6]; exact new_bkc _ _ (by rw [World.size_alloc])
  have hz6 : w6.heap.size = Wd.heap.size + 2 := by rw [hw6, World.size_alloc, World.size_alloc]
  clear hw6
  replace hG := hG.trans g6
  refine hK.out _ _ ⟨fun _ => trivial, hG⟩ (fun _ => ?_)
  clear hK K
  simp only [Act.put, List.setIfInBounds_toArray, List.set_cons_zero, List.set_cons_succ]
  refine doneL (by kernel_rfl) ?_ _
  go_wp2_with fail
  have e1 := hG.block b1
  have e2 := hG.block b2
  have e3 := hG.block b3
  have hzW : YB < Wd.heap.size := Nat.lt_of_lt_of_le hn1z hGk.size
  have hjw : J (pre ++ []) w6 := by rw [List.append_nil]; exact own_nb hJh.out hj0.out (n1.trans hG)
  clear b1 b2 b3 c1 c2 c3
  refine (wpIn_wide (n := 1)).1 ?_
  refine range_boxO (F := Fence.wide) (n := 1) rfl (Nat.le_refl 1) (gf := 51) (lb := #[.pointer (some ⟨Wd.heap.size + 1, 0, none⟩), .pointer (some ⟨Wd.heap.size, 0, none⟩)]) rfl trivial (enters_of Tryd.func51 (by kernel_rfl) rfl)
    (con_seq hCh.out X hX (fun k => R k ∨ k = w6.heap.size ∨ k = w6.heap.size + 1) 0 (Wd.heap.size + 1) Wd.heap.size (by rintro (h | h | h) <;> first | (have := hhi _ h; omega) | omega) (by rintro (h | h | h) <;> first | (have := hhi _ h; omega) | omega) w6 d2 d3 2 (by rintro k (h | h | h) <;> first | (have := hhi _ h; omega) | omega))
    (fun h k => Kq.trans h k) (fun W o _ => Kq.of_nb (Below.alloc (Below.refl _ _) (Nat.le_refl _) _)) (fun W o o' _ => Kq.putObj W _ _ (.inr (.inr rfl))) (Below.refl _ _) (fun _ => rfl)
    (fun (xs : List In7) W => J (pre ++ xs) W ∧ W.heap[YB]? = some (.cells #[.func (.yield l) #[] #[]] 87 (0, 0)) ∧ W.heap[VB]? = some (.cells #[.int .u64 v] 23 (0, 0)) ∧ W.heap[RB]? = some (.cells #[.int .i64 rd] 3 (0, 0)))
    (fun c (xs : List In7) W => c = .ret ∧ Jx (pre ++ xs) W)
    (fun s A B' row hs hg hr => ⟨hJh.out (pre ++ s) A B' row hs.1 hg (fun r e => ⟨by have := (hr r e).1; omega, (hr r e).2⟩), keptC hs.2.1 hg (fun r e => (hr r e).2), keptC hs.2.2.1 hg (fun r e => (hr r e).2), keptC hs.2.2.2 hg (fun r e => (hr r e).2)⟩)
    (fun c s A B' row hs hg hr => ⟨hs.1, hJx (pre ++ s) A B' row hs.2 hg (fun r e => ⟨by have := (hr r e).1; omega, (hr r e).2⟩)⟩)
    ⟨hjw, e1, e2, e3⟩
    (fun (x : In7) (B : Nat) => { tmps := #[.func (.yield l) #[] #[], .pointer (some ⟨VB, 0, none⟩), .pointer (some ⟨RB, 0, none⟩), .pointer (some ⟨YB, 0, none⟩), .int .i64 22, .pointer (some ⟨B, 0, none⟩), .int .i64 rd, .int .u64 v, .int .u64 v, .int .u64 (Sgn v 12), .int .u64 (IntKind.u64.wrap (v - Sgn v 12)), .int .i64 (wrap64 (IntKind.u64.wrap (v - Sgn v 12))), .int .i64 (wrap64 (IntKind.u64.wrap (v - Sgn v 12)) / 4096), .int .u64 (IntKind.u64.wrap (wrap64 (IntKind.u64.wrap (v - Sgn v 12)) / 4096)), .func (.func 51) #[] #[.pointer (some ⟨Wd.heap.size + 1, 0, none⟩), .pointer (some ⟨Wd.heap.size, 0, none⟩)], .agg (i7C x).toArray, undef, undef, undef, undef, undef, undef, undef, undef, undef, undef, .bool false, .int .u64 v, .int .i64 (wrap64 v), .bool false, undef, undef, undef, undef, undef, undef, undef, .bool false, .int .u64 v, .int .i64 (wrap64 v), .bool false, undef, undef, undef, undef, undef, undef, undef, undef, undef, undef, undef, undef, undef, undef, undef], defers := [] }) (fun x => .cells (i7C x).toArray 37) (fun _ => rfl) ?assign ?body ?done ?stop
  case assign =>
    rintro l2 ⟨o1, o2, o3, o4, o5, o6, o7⟩ W K hK
    simp only [i7C] at hK ⊢
    gi_wp2
    exact hK
  case body =>
    rintro l2 pre2 ⟨o1, o2, o3, o4, o5, o6, o7⟩ V0 Bb hBl hob hIx ⟨hjv, k1, k2, k3⟩ hlen2
    obtain ⟨fn, tmps, assign, body, hy, hRd⟩ := hYh.out 0 (pre ++ pre2) (o1, o2, o3, o4, o5, o6, o7) V0 hIx hjv (by have := hlen0.out; rw [List.length_append] at this ⊢; simp at this; omega)
    replace hy : (Instr.yield l #[.agg #[.int .i64 o1, .int .i64 o2, .int .i64 o3, .int .i64 o4, .int .i64 o5, .bool o6, .bool o7]]).run Tryd.prog V0 = .ok (.round l fn tmps assign body) V0 := hy
    replace hRd := Lib.hid hRd
    simp only [i7C] at hob ⊢
    have q0 := cell_of_row _ _ 0 _ _ _ hob
    have q1 := cell_of_row _ _ 1 _ _ _ hob
    have q2 := cell_of_row _ _ 2 _ _ _ hob
    have q3 := cell_of_row _ _ 3 _ _ _ hob
    have q4 := cell_of_row _ _ 4 _ _ _ hob
    have q5 := cell_of_row _ _ 5 _ _ _ hob
    have q6 := cell_of_row _ _ 6 _ _ _ hob
    have c1 := cell_of_row _ _ 0 _ _ _ k1
    gi_wp2
    refine ⟨rfl, RoundIn.mono (show RoundIn (Fence.wide.inRound l2) 0 _ _ _ _ _ _ _ _ from hRd.out) ?_⟩
    rintro e V1 (⟨rfl, hj2, hk2⟩ | ⟨rfl, hx2, hk2⟩)
    · gi_wp2
      exact ⟨⟨hk2.1, fun k o hk hA hnc => hk2.block (fun h => by have := hhi _ h; omega) hA (hX.other o hnc)⟩, hk2.mono (fun k h => .inl h), by simpa [List.append_assoc] using hj2, hk2.block hRY k1 (hX.fn _ _), hk2.block hVB k2 (hX.u64 _ _), hk2.block hRB k3 (hX.int _ _)⟩
    · gi_wp2
      exact ⟨⟨hk2.1, fun k o hk hA hnc => hk2.block (fun h => by have := hhi _ h; omega) hA (hX.other o hnc)⟩, hk2.mono (fun k h => .inl h), rfl, by simpa [List.append_assoc] using hx2⟩
  case done =>
    rintro D xs V hD rfl ⟨hjv, k1, k2, k3⟩ hK
    have hRD : ¬ R D := fun h => by have := hhi _ h; omega
    have c1 := cell_of_row _ _ 0 _ _ _ k1
    have c3 := cell_of_row _ _ 0 _ _ _ k3
    obtain ⟨fn, tmps, assign, body, hy, hRd⟩ := hYh.out 0 (pre ++ xs) (28, rd, rd, 0, 12, false, false) V ⟨by show (-9223372036854775808 : Int) ≤ 12; decide, by show (12 : Int) < 9223372036854775808; decide⟩ hjv (by have := hlen0.out; rw [List.length_append] at this ⊢; simp at this; omega)
    replace hy : (Instr.yield l #[.agg #[.int .i64 28, .int .i64 rd, .int .i64 rd, .int .i64 0, .int .i64 12, .bool false, .bool false]]).run Tryd.prog V = .ok (.round l fn tmps assign body) V := hy
    replace hRd := Lib.hid hRd
    go_upto_region 5 with (fail)
    refine (wpIn_wide (n := 0)).1 ?_
    gi_wp2
    refine ⟨rfl, hRd.out.mono ?_⟩
    rintro e V1 (⟨rfl, hj6, hk6⟩ | ⟨rfl, hx6, hk6⟩)
    · clear c1 c3 hy hRd
      have b1 := hk6.block hRY k1 (hX.fn _ _)
      have b2 := hk6.block hVB k2 (hX.u64 _ _)
      have b3 := hk6.block hRB k3 (hX.int _ _)
      replace hK := hk6.block hRD hK (hX.other _ rfl)
      have hjn := hj6
      gi_wp2
      by_cases hz : Sgn v 12 = 0
      case pos =>
        have t1 : (Sgn v 12 == 0) = true := beq_iff_eq.2 hz
        have t2 : (Sgn v 12 != 0) = false := by rw [bne, t1]; rfl
        have hL := Lib.hid hz
        clear hz
        replace hjn := Lib.hid hjn
        have c1 := cell_of_row _ _ 0 _ _ _ b1
        have c2 := cell_of_row _ _ 0 _ _ _ b2
        have c3 := cell_of_row _ _ 0 _ _ _ b3
        go_wp2_with (go_at_call 53; refine (hlow.out _).mono ?_; rintro r w' ⟨rfl, rfl⟩)
        refine ⟨by simp, .inl ⟨_, _, rfl, run_takeDeferred hK, ?_⟩⟩
        exact ⟨_, results_none rfl _ _ _, ⟨_, rfl⟩, .inl (by unfold talI; rw [if_pos hL.out]; exact OwnFrom.putObj hJh.out _ (by simpa [List.append_assoc] using hjn.out) (by omega) hK rfl)⟩
      case neg =>
      have t1 : (Sgn v 12 == 0) = false := beq_false_of_ne hz
      have t2 : (Sgn v 12 != 0) = true := by rw [bne, t1]; rfl
      have hL := Lib.hid hz
      clear hz
      replace hjn := Lib.hid hjn
      have c1 := cell_of_row _ _ 0 _ _ _ b1
      have c2 := cell_of_row _ _ 0 _ _ _ b2
      have c3 := cell_of_row _ _ 0 _ _ _ b3
      go_upto_region 12 with (go_at_call 53; refine (hlow.out _).mono ?_; rintro r w' ⟨rfl, hww⟩; obtain rfl := hww.symm)
      have hGd : Nb V1 V1.drew := drew1c V1
      refine wp_region_s 1 (by kernel_rfl) ?_
      change wpAnyIn _ _ _ _ _ _ 6 (List.toArray [false, false, false, false, false, false]) _ _
      refine stage (m := 1) (fuel := 5) (List.toArray [true, true, true, true, true, false]) (fun w' => Nb V1 w') hGd (fun hG => ?_)
      refine takeS (i := 0) (v := .func (.yield l) #[] #[]) rfl (by kernel_rfl) (by kernel_rfl) (by kernel_rfl) (by kernel_rfl) (by kernel_rfl) (fun a _ _ h => by cases a <;> exact leavesM_tmps rfl _ _ _ h) (.inl ⟨by rfl, by intro w' hw; have hc := hw.cell c1; go_simp⟩) hG ?_
      simp only [Act.put, List.setIfInBounds_toArray, List.set_cons_zero, List.set_cons_succ]
      refine takeS (i := 1) (v := .int .i64 22) rfl (by kernel_rfl) (by kernel_rfl) (by kernel_rfl) (by kernel_rfl) (by kernel_rfl) (fun a _ _ h => by cases a <;> exact leavesM_tmps rfl _ _ _ h) (.inl ⟨by rfl, by intro w' hw; go_simp⟩) hG ?_
      simp only [Act.put, List.setIfInBounds_toArray, List.set_cons_zero, List.set_cons_succ]
      refine takeS (i := 2) (v := .int .i64 rd) rfl (by kernel_rfl) (by kernel_rfl) (by kernel_rfl) (by kernel_rfl) (by kernel_rfl) (fun a _ _ h => by cases a <;> exact leavesM_tmps rfl _ _ _ h) (.inl ⟨by rfl, by intro w' hw; have hc := hw.cell c3; go_simp⟩) hG ?_
      simp only [Act.put, List.setIfInBounds_toArray, List.set_cons_zero, List.set_cons_succ]
      refine takeS (i := 3) (v := .int .u64 v) rfl (by kernel_rfl) (by kernel_rfl) (by kernel_rfl) (by kernel_rfl) (by kernel_rfl) (fun a _ _ h => by cases a <;> exact leavesM_tmps rfl _ _ _ h) (.inl ⟨by rfl, by intro w' hw; have hc := hw.cell c2; go_simp⟩) hG ?_
      simp only [Act.put, List.setIfInBounds_toArray, List.set_cons_zero, List.set_cons_succ]
      generalize V1.drew = Wd2 at hG ⊢
      refine onlyS (i := 4) (by kernel_rfl) rfl (by rfl) (fun K hK => ?_)
      go_simp
      refine ⟨trivial, callsIn_wide.2 ((hmore.out Wd2).mono ?_)⟩
      rintro r w7 ⟨rfl, h7⟩
      replace hG := hG.trans h7
      refine hK.out _ _ hG (fun _ => ?_)
      clear hK K
      simp only [Act.put, List.setIfInBounds_toArray, List.set_cons_zero, List.set_cons_succ]
      refine ⟨rfl, ?_⟩
      obtain ⟨fn, tmps, assign, body, hy, hRd⟩ := hYh.out 0 _ (morI 22 rd v) w7 (wrap64_r _) (own_nb hJh.out hjn.out hG) (by have := hlen0.out; unfold talI at this; rw [if_neg hL.out] at this; simp at this ⊢; omega)
      replace hy : (Instr.yield l #[.agg #[.int .i64 22, .int .i64 rd, .int .i64 rd, .int .i64 0, .int .i64 (wrap64 (Sgn v 12)), .bool false, .bool false]]).run Tryd.prog w7 = .ok (.round l fn tmps assign body) w7 := hy
      refine onlyIn (i := 5) (by kernel_rfl) rfl (by rfl) (fun K hK => ?_)
      go_simp
      refine hRd.mono ?_
      rintro r w8 (⟨rfl, hj8, hk8⟩ | ⟨rfl, hx8, hk8⟩)
      · refine hK.out _ _ ?_
        clear hK K
        simp only [Act.put, List.setIfInBounds_toArray, List.set_cons_zero, List.set_cons_succ]
        refine wpAnyIn_done (by kernel_rfl) ?_ _
        have hK8 := hk8.block hRD (hG.block hK) (hX.other _ rfl)
        go_wp2_with fail
        refine ⟨by simp, .inl ⟨_, _, rfl, run_takeDeferred hK8, ?_⟩⟩
        exact ⟨_, results_none rfl _ _ _, ⟨_, rfl⟩, .inl (by unfold talI; rw [if_neg hL.out]; exact OwnFrom.putObj hJh.out _ (by simpa [List.append_assoc] using hj8) (by omega) hK8 rfl)⟩
      · refine hK.out _ _ ?_
        clear hK K
        simp only [Act.put, List.setIfInBounds_toArray, List.set_cons_zero, List.set_cons_succ]
        refine wpAnyIn_done (by kernel_rfl) ?_ _
        have hK8 := hk8.block hRD (hG.block hK) (hX.other _ rfl)
        go_wp2_with fail
        refine ⟨by simp, .inl ⟨_, _, rfl, run_takeDeferred hK8, ?_⟩⟩
        exact ⟨_, results_none rfl _ _ _, ⟨_, rfl⟩, .inr ⟨(xs ++ [(28, rd, rd, 0, 12, false, false)]) ++ [morI 22 rd v], by unfold talI; rw [if_neg hL.out]; simp, OwnFrom.putObj hJx _ (by simpa [List.append_assoc] using hx8) (by omega) hK8 rfl⟩⟩
    · replace hK := hk6.block hRD hK (hX.other _ rfl)
      gi_wp2
      go_wp2_with fail
      refine ⟨by simp, .inl ⟨_, _, rfl, run_takeDeferred hK, ?_⟩⟩
      exact ⟨_, results_none rfl _ _ _, ⟨_, rfl⟩, .inr ⟨xs ++ [(28, rd, rd, 0, 12, false, false)], by simp, OwnFrom.putObj hJx _ (by simpa [List.append_assoc] using hx6) (by omega) hK rfl⟩⟩
  case stop =>
    rintro D c pre2 V hD hpre ⟨rfl, hx⟩ hK
    gi_wp2
    go_wp2_with fail
    refine ⟨by simp, .inl ⟨_, _, rfl, run_takeDeferred hK, ?_⟩⟩
    exact ⟨_, results_none rfl _ _ _, ⟨_, rfl⟩, .inr ⟨pre2, List.IsPrefix.trans hpre (List.prefix_append _ _), (OwnFrom.putObj hJx _ hx (by omega) hK rfl)⟩⟩
end Go.Proofs.YtnooabgdcfegeaaDoor
