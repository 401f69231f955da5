/-
  Proved here: writing into a writer's text, and telling it. Conditions: stated. ¦ which heads may be, which trees may be (part by part), and that the flat list of a tree's parts says the same. Conditions: none.
-/
import Derived.Test.YtojogolmcclpoaaDoorSaa
import Derived.Test.YtojogolmcclpoaaDoorSab
import Derived.Shelf.Strings.Builder1
import Derived.Shelf.Strings.BuilderF
import Derived.Shelf.Strings.BuilderK
import Derived.Lib.OthersKept
section
namespace Go.Proofs.YtojogolmcclpoaaDoor
open Go.RowKit Go.Shelf
set_option linter.unusedVariables false
set_option linter.unusedSimpArgs false
set_option maxRecDepth 100000
set_option maxHeartbeats 4000000
abbrev wT : TypeId := 52
abbrev bT : TypeId := 5
theorem copy_used (b : Nat) (w : World) (h0 : w.cell? ⟨b, 0, none⟩ = some (.pointer (some ⟨b, 0, none⟩))) :
    Calls Tryd.prog 75 #[.pointer (some ⟨b, 0, none⟩)] w fun e w' => e = .returned (.tuple #[]) ∧ w' = w := by
  obtain ⟨j, hj, _⟩ := Option.map_eq_some_iff.1 (show (Tryd.prog.info? 50).map (·.size) = some 2 by kernel_rfl)
  go_enter Tryd.func75, Tryd.ntmps75
  go_wp2
  rw [Lib.run_neq_ptr_same w _ Tryd.underlying47 hj]
  go_wp2
  go_end0
  exact ⟨rfl, rfl⟩
theorem copy_fresh (b : Nat) (w : World) (h0 : w.cell? ⟨b, 0, none⟩ = some (.pointer none)) (hsh : w.shape? b = some (wT, 2)) (hfz : w.frozen? ⟨b, 0, none⟩ = false) :
    Calls Tryd.prog 75 #[.pointer (some ⟨b, 0, none⟩)] w fun e w' => e = .returned (.tuple #[]) ∧ w' = w.setCell ⟨b, 0, none⟩ (.pointer (some ⟨b, 0, none⟩)) := by
  obtain ⟨j, hj, hjs⟩ := Option.map_eq_some_iff.1 (show (Tryd.prog.info? 50).map (·.size) = some 2 by kernel_rfl)
  go_enter Tryd.func75, Tryd.ntmps75
  go_wp2
  rw [Lib.run_to_unsafe w ⟨b, 0, none⟩ Tryd.underlying47 Tryd.underlying116 hj (by rw [hjs]; decide) hsh (Nat.zero_lt_succ 1)]
  simp only [Result.andThen]
  rw [Oper.upon_value]
  go_wp2
  rw [run_callFunc_extern Tryd.func78 (by kernel_rfl) (by kernel_rfl) (by kernel_rfl) (e := Extern.AbiNoEscape.same) (by kernel_rfl)]
  rw [Lib.run_noEscape]
  simp only [Result.andThen]
  rw [Oper.upon_value]
  go_wp2
  rw [Lib.run_from_unsafe w ⟨b, 0, none⟩ Tryd.underlying116 Tryd.underlying47 hj hsh (by kernel_rfl)]
  simp only [Result.andThen]
  rw [Oper.upon_value]
  go_wp2
  go_end0
  exact ⟨rfl, rfl⟩
theorem copy_any (B b : Nat) (bs : List Value) (w : World) (h : Lib.IsBuilderF wT bT B b bs w) :
    Calls Tryd.prog 75 #[.pointer (some ⟨b, 0, none⟩)] w fun e w' => e = .returned (.tuple #[]) ∧ (Lib.BuilderAtF wT bT B b (.pointer (some ⟨b, 0, none⟩)) bs w' ∧ Below B w w' ∧ Lib.OthersKept bT (some b) w w') := by
  rcases h with h | h
  · refine (copy_fresh b w h.cell0 h.shape h.frozen0).mono ?_
    rintro e w' ⟨rfl, rfl⟩
    exact ⟨rfl, h.used _, (Below.refl B w).setCell (p := ⟨b, 0, none⟩) h.1 _, (Lib.OthersKept.refl _ _ w).setCell ⟨b, 0, none⟩ rfl _⟩
  · refine (copy_used b w h.cell0).mono ?_
    rintro e w' ⟨rfl, rfl⟩
    exact ⟨rfl, h, Below.refl B _, Lib.OthersKept.refl _ _ _⟩
theorem wstr_any (B b : Nat) (bs : List Value) (s : ByteArray) (w : World) (h : Lib.IsBuilderF wT bT B b bs w) (hlen : bs.length + s.size ≤ 140737488355328) (hBw : B ≤ w.heap.size) :
    Calls Tryd.prog 67 #[.pointer (some ⟨b, 0, none⟩), .string s] w fun e w' => e = .returned (.tuple #[.int .i64 s.size, .nilIface]) ∧ (Lib.BuilderAtF wT bT B b (.pointer (some ⟨b, 0, none⟩)) (bs ++ Lib.strCells s) w' ∧ Below B w w' ∧ Lib.OthersKept bT (some b) w w') := by
  obtain ⟨i0, hi, hz0, hz1, hz2⟩ := info_parts (show (Tryd.prog.info? 5).map (fun i => (i.zero, i.size, i.bytes)) = some (some (.int .u8 0), 1, 1) by kernel_rfl)
  go_enter Tryd.func67, Tryd.ntmps67
  go_wp2_with (go_at_call 75; refine (copy_any B b bs _ h).mono ?_)
  rintro e w1 ⟨rfl, h1, hb1, hk1⟩
  obtain ⟨hB, v, hbk, hown, hne⟩ := h1
  have c0 : w1.cell? ⟨b, 0, none⟩ = some (.pointer (some ⟨b, 0, none⟩)) := by rw [Lib.cell_of_heap hbk]; rfl
  have c1 : w1.cell? ⟨b, 1, none⟩ = some v := by rw [Lib.cell_of_heap hbk]; rfl
  go_wp2_with (at_builtin; refine Lib.wpList_append_own_stringF _ rfl _ _ 48 9 rfl B bT i0 Tryd.underlying48 Tryd.underlying9 hi hz0 hz1 hz2 _ _ _ rfl hown s rfl ?c3 ?c4 ?c5 ?_)
  case c3 => unfold maxLen; omega
  case c4 => omega
  case c5 => have := hb1.size; omega
  intro v' w2 hown' hgrow _
  have hlt : b < w1.heap.size := lt_blk hbk
  have hb2 : w2.heap[b]? = some (.cells #[.pointer (some ⟨b, 0, none⟩), v] wT (0, 0)) := by
    rw [hgrow.block b hlt (fun e => hne e.symm)]
    exact hbk
  have d0 : w2.cell? ⟨b, 0, none⟩ = some (.pointer (some ⟨b, 0, none⟩)) := by rw [Lib.cell_of_heap hb2]; rfl
  have d1 : w2.cell? ⟨b, 1, none⟩ = some v := by rw [Lib.cell_of_heap hb2]; rfl
  have f1 : w2.frozen? ⟨b, 1, none⟩ = false := Lib.frozen_of_heap hb2 1
  obtain ⟨ao, n', cap, rfl⟩ : ∃ ao n' cap, v' = .slice ao n' cap := by
    rcases hown'.2 with ⟨hv, _⟩ | ⟨g, cap, cur, fz, hv, _⟩
    · exact ⟨_, _, _, hv⟩
    · exact ⟨_, _, _, hv⟩
  go_wp2
  go_ret2
  refine ⟨rfl, ?_, ?_, (hk1.grown hgrow (Lib.ownsRowF_kind hown)).setCell ⟨b, 1, none⟩ rfl _⟩
  · exact Lib.BuilderAtF.put (T := wT) (e := bT) hB hb2 (bs' := bs ++ Lib.strCells s) (by simpa [Lib.strCells_length] using hown') (by decide)
  · exact (hb1.grown hgrow (by have := hb1.size; omega) (fun k hk => (hown.lt k hk).1)).setCell (p := ⟨b, 1, none⟩) hB _
end Go.Proofs.YtojogolmcclpoaaDoor
end
section
namespace Go.Proofs.YtojogolmcclpoaaDoor
set_option linter.unusedVariables false
set_option linter.unusedSimpArgs false
def inI (n a b : Int) : Bool := decide (a ≤ n) && decide (n ≤ b)
/-- Two heads are the same, cell by cell. -/
def eqH (a b : Hd) : Bool := (a.sort == b.sort) && ((a.kind == b.kind) && ((a.name == b.name) && ((a.actor == b.actor) && ((a.n == b.n) && ((a.late == b.late) && ((a.defs == b.defs) && ((a.params == b.params) && ((a.stmts == b.stmts) && ((a.args == b.args) && ((a.parts == b.parts) && (a.arms == b.arms)))))))))))
theorem eqH_iff (a b : Hd) : eqH a b = true ↔ a = b := by
  obtain ⟨a1, a2, a3, a4, a5, a6, a7, a8, a9, a10, a11, a12⟩ := a
  obtain ⟨b1, b2, b3, b4, b5, b6, b7, b8, b9, b10, b11, b12⟩ := b
  simp only [eqH, Bool.and_eq_true, beq_iff_eq, Hd.mk.injEq]
def recS (t : Bs) : Bool := (((t == [43] || t == [45]) || t == [42]) || t == [60]) || t == [61, 61]
def callS (h : Hd) (t : Bs) : Bool := nameS t && decide ((h.args : Int) ≤ 8)
def endS (h : Hd) : Bool :=
  if h.kind = 1 then callS h h.actor && eqH h ⟨h.sort, h.kind, [], h.actor, 0, false, 0, 0, h.stmts, h.args, 0, 0⟩
  else if h.kind = 2 then eqH h ⟨h.sort, h.kind, [], [], 0, false, 0, 0, h.stmts, 0, 0, 0⟩
  else if h.kind = 3 then eqH h ⟨h.sort, h.kind, [], [], 0, false, 0, 0, h.stmts, 1, 2, 0⟩
  else if h.kind = 4 then
    (if h.late = true then inI h.n 0 2305843009213693951 && eqH h ⟨h.sort, h.kind, [], [], h.n, true, 0, 0, h.stmts, 0, 1, h.arms⟩
     else decide ((0 : Int) < h.arms) && eqH h ⟨h.sort, h.kind, [], [], 0, false, 0, 0, h.stmts, 0, 0, h.arms⟩)
  else false
def stateS (h : Hd) : Bool :=
  if h.kind = 1 then nameS h.name && eqH h ⟨h.sort, h.kind, h.name, [], 0, false, 0, 0, 0, 1, 0, 0⟩
  else if h.kind = 2 then (nameS h.name && callS h h.actor) && eqH h ⟨h.sort, h.kind, h.name, h.actor, 0, false, 0, 0, 0, h.args, 0, 0⟩
  else if h.kind = 3 then eqH h ⟨h.sort, h.kind, [], [], 0, false, 0, 0, 0, 2, 0, 0⟩
  else if h.kind = 4 then eqH h ⟨h.sort, h.kind, [], [], 0, false, 0, 0, 0, 1, 0, 0⟩
  else false
def reckS (h : Hd) : Bool :=
  if h.kind = 1 then inI h.n 0 2305843009213693951 && eqH h ⟨h.sort, h.kind, [], [], h.n, false, 0, 0, 0, 0, 0, 0⟩
  else if h.kind = 2 ∨ h.kind = 3 then nameS h.name && eqH h ⟨h.sort, h.kind, h.name, [], 0, false, 0, 0, 0, 0, 0, 0⟩
  else if h.kind = 4 then eqH h ⟨h.sort, h.kind, [], [], 0, false, 0, 0, 0, 0, 0, 0⟩
  else if h.kind = 5 then inI h.args 1 4 && eqH h ⟨h.sort, h.kind, [], [], 0, false, 0, 0, 0, h.args, 0, 0⟩
  else if h.kind = 6 then recS h.name && eqH h ⟨h.sort, h.kind, h.name, [], 0, false, 0, 0, 0, 2, 0, 0⟩
  else false
def matchS (h : Hd) : Bool :=
  if h.kind = 1 then eqH h ⟨h.sort, h.kind, [], [], 0, false, 0, 0, 0, 0, 0, 0⟩
  else if h.kind = 2 then inI h.n (-2305843009213693951) 2305843009213693951 && eqH h ⟨h.sort, h.kind, [], [], h.n, false, 0, 0, 0, 0, 0, 0⟩
  else if h.kind = 3 ∨ h.kind = 4 then nameS h.name && eqH h ⟨h.sort, h.kind, h.name, [], 0, false, 0, 0, 0, 0, 0, 0⟩
  else if h.kind = 5 then inI h.args 1 4 && eqH h ⟨h.sort, h.kind, [], [], 0, false, 0, 0, 0, h.args, 0, 0⟩
  else false
def mayS (h : Hd) : Bool :=
  if h.sort = 1 then inI h.defs 1 64 && callS h h.name
  else if h.sort = 2 then nameS h.name && decide ((h.params : Int) ≤ 8)
  else if h.sort = 3 then nameS h.name
  else if h.sort = 4 then endS h
  else if h.sort = 5 then stateS h
  else if h.sort = 6 then decide ((h.args : Int) ≤ 1)
  else if h.sort = 7 then reckS h
  else matchS h
/-! Part by part. -/
mutual
def gE : Ex → Bool
  | .mk k a n s v l => reckS (hdE (.mk k a n s v l)) && gEs l
def gEs : List Ex → Bool
  | [] => true
  | x :: l => gE x && gEs l
end
mutual
def gT : Ex → Bool
  | .mk k a n s v l => matchS (hdT (.mk k a n s v l)) && gTs l
def gTs : List Ex → Bool
  | [] => true
  | x :: l => gT x && gTs l
end
def gSt (s : St) : Bool := stateS (hdS s) && gEs s.args
def gSts : List St → Bool
  | [] => true
  | x :: l => gSt x && gSts l
mutual
def gB : Bd → Bool
  | .mk sv ss k a ac av es pv ps mv ms lt af => endS (hdB (.mk sv ss k a ac av es pv ps mv ms lt af)) && (gSts ss && (gEs es && (gBs ps && gAs ms)))
def gBs : List Bd → Bool
  | [] => true
  | x :: l => gB x && gBs l
def gA : Am → Bool
  | .mk p gv g b => decide ((g.length : Int) ≤ 1) && (gT p && (gEs g && gB b))
def gAs : List Am → Bool
  | [] => true
  | x :: l => gA x && gAs l
end
def gD (d : Df) : Bool := (nameS d.name && decide ((d.params.length : Int) ≤ 8)) && (d.params.all nameS && gB d.body)
def gP (p : Pg) : Bool := (inI p.defs.length 1 64 && (nameS p.main && decide ((p.args.length : Int) ≤ 8))) && (p.defs.all gD && gEs p.args)
theorem gE_eq (e : Ex) : gE e = (reckS (hdE e) && gEs e.args) := by cases e; rfl
theorem gT_eq (e : Ex) : gT e = (matchS (hdT e) && gTs e.args) := by cases e; rfl
theorem gB_eq (b : Bd) : gB b = (endS (hdB b) && (gSts b.stmts && (gEs b.args && (gBs b.parts && gAs b.arms)))) := by cases b; rfl
theorem gA_eq (m : Am) : gA m = (decide ((m.guard.length : Int) ≤ 1) && (gT m.pat && (gEs m.guard && gB m.body))) := by cases m; rfl
theorem gEs_all (l : List Ex) : gEs l = l.all gE := by
  induction l with
  | nil => rfl
  | cons x l ih => rw [List.all_cons, ← ih]; rfl
theorem gTs_all (l : List Ex) : gTs l = l.all gT := by
  induction l with
  | nil => rfl
  | cons x l ih => rw [List.all_cons, ← ih]; rfl
theorem gSts_all (l : List St) : gSts l = l.all gSt := by
  induction l with
  | nil => rfl
  | cons x l ih => rw [List.all_cons, ← ih]; rfl
theorem gBs_all (l : List Bd) : gBs l = l.all gB := by
  induction l with
  | nil => rfl
  | cons x l ih => rw [List.all_cons, ← ih]; rfl
theorem gAs_all (l : List Am) : gAs l = l.all gA := by
  induction l with
  | nil => rfl
  | cons x l ih => rw [List.all_cons, ← ih]; rfl
/-! Flat. -/
def allM (l : List Pt) : Bool := l.all fun x => mayS x.2
theorem allM_append (a b : List Pt) : allM (a ++ b) = (allM a && allM b) := List.all_append
theorem allM_cons (x : Pt) (b : List Pt) : allM (x :: b) = (mayS x.2 && allM b) := rfl
theorem allM_snoc (pre : List Pt) (x : Pt) : allM (pre ++ [x]) = (allM pre && mayS x.2) := by rw [allM_append, allM_cons]; simp [allM]
theorem allM_prefix {a b : List Pt} (h : a <+: b) (hf : allM a = false) : allM b = false := by
  obtain ⟨t, rfl⟩ := h
  rw [allM_append, hf]
  rfl
theorem allM_flatten {α : Type} (f : α → List Pt) (l : List α) : allM (l.map f).flatten = l.all fun x => allM (f x) := by
  induction l with
  | nil => rfl
  | cons x l ih => rw [List.map_cons, List.flatten_cons, allM_append, ih]; rfl
theorem all_congr {α : Type} {f g : α → Bool} {l : List α} (h : ∀ x ∈ l, f x = g x) : l.all f = l.all g := by
  induction l with
  | nil => rfl
  | cons x l ih => rw [List.all_cons, List.all_cons, h x (List.mem_cons_self ..), ih fun y hy => h y (List.mem_cons_of_mem _ hy)]
theorem maxL_mem {l : List Nat} {x : Nat} (h : x ∈ l) : x ≤ maxL l := by
  induction l with
  | nil => cases h
  | cons y r ih =>
    show x ≤ max y (maxL r)
    rcases List.mem_cons.1 h with rfl | h
    · omega
    · have := ih h; omega
theorem maxL_at {α : Type} (f : α → Nat) {l : List α} {x : α} (h : x ∈ l) {k : Nat} (hk : maxL (l.map f) < k) : f x < k := by
  have := maxL_mem (List.mem_map_of_mem (f := f) h)
  omega
theorem allM_flE : ∀ (k : Nat) (e : Ex), dpE k e < k → allM (flE hdE k e) = gE e
  | 0, e, h => absurd h (Nat.not_lt_zero _)
  | k + 1, e, h => by
    have h1 : maxL (e.args.map (dpE k)) < k := by
      have : dpE (k + 1) e = 1 + maxL (e.args.map (dpE k)) := rfl
      omega
    rw [flE, allM_cons, allM_flatten, all_congr (fun x hx => allM_flE k x (maxL_at (dpE k) hx h1)), gE_eq, gEs_all]
    rfl
theorem allM_flT : ∀ (k : Nat) (e : Ex), dpE k e < k → allM (flE hdT k e) = gT e
  | 0, e, h => absurd h (Nat.not_lt_zero _)
  | k + 1, e, h => by
    have h1 : maxL (e.args.map (dpE k)) < k := by
      have : dpE (k + 1) e = 1 + maxL (e.args.map (dpE k)) := rfl
      omega
    rw [flE, allM_cons, allM_flatten, all_congr (fun x hx => allM_flT k x (maxL_at (dpE k) hx h1)), gT_eq, gTs_all]
    rfl
theorem allM_flEs (k : Nat) (l : List Ex) (h : dpEs k l < k) : allM (flEs hdE k l) = gEs l := by
  unfold flEs
  rw [allM_flatten, all_congr (fun x hx => allM_flE k x (maxL_at (dpE k) hx h)), gEs_all]
theorem allM_flS (k : Nat) (s : St) (h : dpEs k s.args < k) : allM (flS k s) = gSt s := by
  rw [flS, allM_cons, allM_flEs k _ h]
  rfl
theorem allM_flB : ∀ (k : Nat) (b : Bd), dpB k b < k → allM (flB k b) = gB b
  | 0, b, h => absurd h (Nat.not_lt_zero _)
  | k + 1, b, h => by
    have h0 : dpB (k + 1) b = 1 + max (dpEs k b.args) (max (maxL (b.stmts.map fun s => dpEs k s.args)) (max (maxL (b.parts.map (dpB k))) (maxL (b.arms.map fun m => max (dpE k m.pat) (max (dpEs k m.guard) (dpB k m.body)))))) := rfl
    have h1 : dpEs k b.args < k := by omega
    have h2 : maxL (b.stmts.map fun s => dpEs k s.args) < k := by omega
    have h3 : maxL (b.parts.map (dpB k)) < k := by omega
    have h4 : maxL (b.arms.map fun m => max (dpE k m.pat) (max (dpEs k m.guard) (dpB k m.body))) < k := by omega
    have hm : ∀ m ∈ b.arms, allM ((65 - k, hdA m) :: (flE hdT k m.pat ++ flEs hdE k m.guard ++ flB k m.body)) = gA m := fun m hm => by
      have h5 := maxL_at (fun m : Am => max (dpE k m.pat) (max (dpEs k m.guard) (dpB k m.body))) hm h4

      rw [allM_cons, allM_append, allM_append, allM_flT k _ (by omega), allM_flEs k _ (by omega), allM_flB k _ (by omega), gA_eq, Bool.and_assoc]
      rfl
    rw [flB, allM_cons, allM_append, allM_append, allM_append, allM_flatten, allM_flatten, allM_flatten, allM_flEs k _ h1, all_congr (fun s hs => allM_flS k s (maxL_at (fun s : St => dpEs k s.args) hs h2)), all_congr hm, all_congr (fun x hx => allM_flB k x (maxL_at (dpB k) hx h3)), gB_eq, gSts_all, gBs_all, gAs_all, Bool.and_assoc, Bool.and_assoc]
    rfl
theorem allM_flD (d : Df) (h : dpB 65 d.body < 65) : allM (flD d) = gD d := by
  have h1 : allM (d.params.map fun s => (0, hdM s)) = d.params.all nameS := by
    generalize d.params = l
    induction l with
    | nil => rfl
    | cons x l ih => rw [List.map_cons, allM_cons, ih]; rfl
  unfold flD
  rw [allM_cons, allM_append, allM_flB 65 _ h, h1]
  rfl
theorem allM_flP (p : Pg) (h : dpP p < 65) : allM (flP p) = gP p := by
  have h0 : dpP p = max (dpEs 65 p.args) (maxL (p.defs.map fun d => dpB 65 d.body)) := rfl
  unfold flP
  rw [allM_cons, allM_append, allM_flatten, allM_flEs 65 _ (by omega), all_congr (fun d hd => allM_flD d (maxL_at (fun d : Df => dpB 65 d.body) hd (by omega)))]
  rfl
end Go.Proofs.YtojogolmcclpoaaDoor
end
