/-
  Proved here: texts of unlike bodies, and of unlike programs, are unlike. Conditions: they may be.
-/
import Derived.Test.YtojogolmcclpoaaDoorSbo
namespace Go.Proofs.YtojogolmcclpoaaDoor
set_option linter.unusedVariables false
set_option linter.unusedSimpArgs false
mutual
/-- A body without its places and its memory. -/
def sBd : Bd → Bd
  | .mk sv ss k a ac av es pv ps mv ms lt af => .mk (.slice none 0 0) (ss.map sSt) k 0 ac (.slice none 0 0) (es.map sEx) (.slice none 0 0) (sBds ps) (.slice none 0 0) (sAms ms) lt af
def sBds : List Bd → List Bd
  | [] => []
  | x :: l => sBd x :: sBds l
def sAm : Am → Am
  | .mk p gv g b => .mk (sEx p) (.slice none 0 0) (g.map sEx) (sBd b)
def sAms : List Am → List Am
  | [] => []
  | x :: l => sAm x :: sAms l
end
theorem sBds_map (l : List Bd) : sBds l = l.map sBd := by
  induction l with
  | nil => rfl
  | cons x l ih => rw [List.map_cons, ← ih]; rfl
theorem sAms_map (l : List Am) : sAms l = l.map sAm := by
  induction l with
  | nil => rfl
  | cons x l ih => rw [List.map_cons, ← ih]; rfl
theorem sBd_eq (b : Bd) : sBd b = .mk (.slice none 0 0) (b.stmts.map sSt) b.kind 0 b.actor (.slice none 0 0) (b.args.map sEx) (.slice none 0 0) (b.parts.map sBd) (.slice none 0 0) (b.arms.map sAm) b.late b.after := by
  cases b with
  | mk sv ss k a ac av es pv ps mv ms lt af => rw [← sBds_map, ← sAms_map]; rfl
theorem sAm_eq (m : Am) : sAm m = .mk (sEx m.pat) (.slice none 0 0) (m.guard.map sEx) (sBd m.body) := by
  cases m with
  | mk p gv g b => rfl
theorem shBd (b : Bd) (h : gB b = true) :
    (b.kind = 1 ∧ nameS b.actor = true ∧ b.args.all gE = true ∧ b.parts = [] ∧ b.arms = [] ∧ b.late = false ∧ b.after = 0 ∧ endT b = [98, 101, 99, 111, 109, 101, 32] ++ acT b.actor b.args) ∨
    (b.kind = 2 ∧ b.actor = [] ∧ b.args = [] ∧ b.parts = [] ∧ b.arms = [] ∧ b.late = false ∧ b.after = 0 ∧ endT b = [115, 116, 111, 112]) ∨
    (b.kind = 3 ∧ b.actor = [] ∧ b.arms = [] ∧ b.late = false ∧ b.after = 0 ∧ ∃ x p q, b.args = [x] ∧ b.parts = [p, q] ∧ gE x = true ∧ gB p = true ∧ gB q = true ∧ endT b = [105, 102, 32] ++ (txE x ++ (32 :: (txB p ++ ([32, 101, 108, 115, 101, 32] ++ txB q))))) ∨
    (b.kind = 4 ∧ b.actor = [] ∧ b.args = [] ∧ b.late = true ∧ ∃ p, b.parts = [p] ∧ gB p = true ∧ endT b = [114, 101, 99, 101, 105, 118, 101, 32, 123] ++ (txAs b.arms ++ ([32, 97, 102, 116, 101, 114, 32] ++ (Lib.itoa b.after ++ (32 :: (txB p ++ [32, 125])))))) ∨
    (b.kind = 4 ∧ b.actor = [] ∧ b.args = [] ∧ b.late = false ∧ b.parts = [] ∧ b.after = 0 ∧ endT b = [114, 101, 99, 101, 105, 118, 101, 32, 123] ++ (txAs b.arms ++ [32, 125])) := by
  rw [gB_eq] at h
  simp only [Bool.and_eq_true] at h
  obtain ⟨h, -, hes, hps, -⟩ := h
  rw [gEs_all] at hes
  rw [gBs_all] at hps
  have htx : endT b = if b.kind = 1 then [98, 101, 99, 111, 109, 101, 32] ++ acT b.actor b.args else if b.kind = 2 then [115, 116, 111, 112] else if b.kind = 3 then [105, 102, 32] ++ (jnT (txEs b.args) ++ ([32] ++ ((txBs b.parts).getD 0 [] ++ ([32, 101, 108, 115, 101, 32] ++ (txBs b.parts).getD 1 []))))
      else rcT b.late b.after (txBs b.parts) (txAs b.arms) := rfl
  obtain ⟨sv, ss, k, a, ac, av, es, pv, ps, mv, ms, lt, af⟩ := b
  unfold endS callS at h
  simp only [hdB, Bd.kind, Bd.actor, Bd.args, Bd.parts, Bd.arms, Bd.late, Bd.after, Bd.stmts] at h htx hes hps ⊢
  by_cases k1 : k = 1
  · subst k1
    simp only [if_true, Bool.and_eq_true, eqH_iff, Hd.mk.injEq] at h htx
    exact .inl ⟨rfl, h.1.1, hes, by simp_all, by simp_all, by simp_all, by simp_all, htx⟩
  by_cases k2 : k = 2
  · subst k2
    simp only [if_true, if_false, Int.reduceEq, eqH_iff, Hd.mk.injEq] at h htx
    exact .inr (.inl ⟨rfl, by simp_all, by simp_all, by simp_all, by simp_all, by simp_all, by simp_all, htx⟩)
  by_cases k3 : k = 3
  · subst k3
    simp only [if_true, if_false, Int.reduceEq, eqH_iff, Hd.mk.injEq] at h htx
    have h1 : es.length = 1 := by simp_all
    have h2 : ps.length = 2 := by simp_all
    obtain ⟨x, rfl⟩ : ∃ x, es = [x] := by
      match es, h1 with
      | [x], _ => exact ⟨x, rfl⟩
    obtain ⟨p, q, rfl⟩ : ∃ p q, ps = [p, q] := by
      match ps, h2 with
      | [p, q], _ => exact ⟨p, q, rfl⟩
    have hps' := List.all_eq_true.1 hps
    refine .inr (.inr (.inl ⟨rfl, by simp_all, by simp_all, by simp_all, by simp_all, x, p, q, rfl, rfl, List.all_eq_true.1 hes x (by simp), hps' p (by simp), hps' q (by simp), ?_⟩))
    rw [htx, show jnT (txEs [x]) = txE x from List.append_nil _]
    rfl
  by_cases k4 : k = 4
  · subst k4
    simp only [if_true, if_false, Int.reduceEq] at h htx
    unfold rcT at htx
    cases lt with
    | true =>
      simp only [if_true, Bool.and_eq_true, eqH_iff, Hd.mk.injEq] at h htx
      have h2 : ps.length = 1 := by simp_all
      obtain ⟨p, rfl⟩ : ∃ p, ps = [p] := by
        match ps, h2 with
        | [p], _ => exact ⟨p, rfl⟩
      refine .inr (.inr (.inr (.inl ⟨rfl, by simp_all, by simp_all, rfl, p, rfl, List.all_eq_true.1 hps p (by simp), ?_⟩)))
      rw [htx, show jnT (txBs [p]) = txB p from List.append_nil _]
      simp only [List.append_assoc, List.cons_append, List.nil_append]
    | false =>
      simp only [Bool.false_eq_true, if_false, Bool.and_eq_true, eqH_iff, Hd.mk.injEq] at h htx
      exact .inr (.inr (.inr (.inr ⟨rfl, by simp_all, by simp_all, rfl, by simp_all, by simp_all, by rw [htx]; simp only [List.nil_append]⟩)))
  simp only [k1, k2, k3, k4, if_false] at h
  cases h
theorem hdEnd (b : Bd) (h : gB b = true) : ∃ c d r, endT b = c :: d :: r ∧ (c, d) ∈ [((98 : UInt8), (101 : UInt8)), (115, 116), (105, 102), (114, 101)] := by
  rcases shBd b h with ⟨-, -, -, -, -, -, -, et⟩ | ⟨-, -, -, -, -, -, -, et⟩ | ⟨-, -, -, -, -, x, p, q, -, -, -, -, -, et⟩ | ⟨-, -, -, -, p, -, -, et⟩ | ⟨-, -, -, -, -, -, et⟩ <;> rw [et] <;> exact ⟨_, _, _, rfl, by decide⟩
theorem end_noS (b : Bd) (h : gB b = true) (u : Bs) (x : St) (r : Bs) (hx : gSt x = true) : txS x ++ r ≠ endT b ++ u := by
  obtain ⟨c, d, r1, h1, h2⟩ := hdSt x hx
  obtain ⟨c', d', r2, h3, h4⟩ := hdEnd b h
  rw [h1, h3]
  intro e
  simp only [List.cons_append, List.cons.injEq] at e
  obtain ⟨rfl, rfl, -⟩ := e
  simp only [List.mem_cons, Prod.mk.injEq, List.not_mem_nil, or_false] at h2 h4
  rcases h2 with ⟨rfl, rfl⟩ | ⟨rfl, rfl⟩ | ⟨rfl, rfl⟩ <;> revert h4 <;> decide
/-- What may stand behind the arms. -/
def aftA (s : Bs) : Prop := (∃ r, s = 32 :: 125 :: r) ∨ ∃ r, s = 32 :: ([97, 102, 116, 101, 114] ++ (32 :: r))
theorem gdT_ends (g : List Ex) (u : Bs) : endsW (gdT g ++ (32 :: u)) := by
  cases g with
  | nil => exact endsW_cons (by decide)
  | cons x g => exact endsW_cons (by decide)
theorem arm_no {m : Am} (hg : gA m = true) {s : Bs} (hs : aftA s) (u : Bs) : ([32] ++ txA m) ++ u ≠ s := by
  rw [gA_eq] at hg
  simp only [Bool.and_eq_true] at hg
  intro h
  rw [txA_eq] at h
  simp only [List.append_assoc, List.cons_append, List.nil_append] at h
  rcases hs with ⟨r, rfl⟩ | ⟨r, rfl⟩
  · rw [List.cons.injEq] at h
    obtain ⟨d, r', h1, -, h2⟩ := clsT_ne m.pat hg.2.1
    rw [h1, List.cons_append, List.cons.injEq] at h
    exact h2 h.2.1
  · rw [List.cons.injEq] at h
    exact noT hg.2.1 (d := 97) (r := [102, 116, 101, 114]) (by decide) (by decide) (by decide) (by decide) (gdT_ends _ _) (endsW_cons (by decide)) h.2
theorem cut_guard {g g' : List Ex} (h1 : g.length ≤ 1) (h1' : g'.length ≤ 1) (hg : g.all gE = true) (hg' : g'.all gE = true) {u v : Bs} (h : gdT g ++ (32 :: 123 :: u) = gdT g' ++ (32 :: 123 :: v)) : g.map sEx = g'.map sEx ∧ u = v := by
  match g, g', h1, h1' with
  | [], [], _, _ =>
    have h' : (32 : UInt8) :: 123 :: u = 32 :: 123 :: v := h
    simp only [List.cons.injEq, true_and] at h'
    exact ⟨rfl, h'⟩
  | [], y :: l, _, _ =>
    have h' : (32 : UInt8) :: 123 :: u = 32 :: 119 :: _ := h
    simp only [List.cons.injEq, true_and] at h'
    exact absurd h'.1 (by decide)
  | x :: l, [], _, _ =>
    have h' : (32 : UInt8) :: 119 :: _ = 32 :: 123 :: v := h
    simp only [List.cons.injEq, true_and] at h'
    exact absurd h'.1 (by decide)
  | [x], [y], _, _ =>
    have h' : ([32, 119, 104, 101, 110, 32] ++ txE x) ++ [] ++ (32 :: 123 :: u) = ([32, 119, 104, 101, 110, 32] ++ txE y) ++ [] ++ (32 :: 123 :: v) := h
    simp only [List.append_nil, List.append_assoc, List.cons_append, List.nil_append, List.cons.injEq, true_and] at h'
    obtain ⟨h3, h4⟩ := txE_tells x (List.all_eq_true.1 hg x (by simp)) y (List.all_eq_true.1 hg' y (by simp)) _ _ (endsW_cons (by decide)) (endsW_cons (by decide)) h'
    simp only [List.cons.injEq, true_and] at h4
    exact ⟨by simp only [List.map_cons, h3, List.map_nil], h4⟩
  | _ :: _ :: _, _, h, _ => simp at h
  | _, _ :: _ :: _, _, h => simp at h
/-- Unlike bodies have unlike texts, whatever follows. -/
def TellsB (x y : Bd) : Prop := ∀ s t, txB x ++ s = txB y ++ t → sBd x = sBd y ∧ s = t
theorem txB_hd (b : Bd) (u : Bs) : ∃ r, txB b ++ u = 123 :: r := by
  rw [txB_eq]
  exact ⟨_, rfl⟩
theorem cut_arms : ∀ (l m : List Am) (s t : Bs), l.all gA = true → m.all gA = true → (∀ x ∈ l, ∀ y ∈ m, TellsB x.body y.body) → aftA s → aftA t → txAs l ++ s = txAs m ++ t → l.map sAm = m.map sAm ∧ s = t
  | [], [], s, t, _, _, _, _, _, h => ⟨rfl, h⟩
  | [], y :: m, s, t, _, hm, _, hs, _, h => by
    refine absurd h.symm ?_
    show ([32] ++ txA y) ++ txAs m ++ t ≠ s
    rw [List.append_assoc]
    exact arm_no (List.all_eq_true.1 hm y List.mem_cons_self) hs _
  | x :: l, [], s, t, hl, _, _, _, ht, h => by
    refine absurd h ?_
    show ([32] ++ txA x) ++ txAs l ++ s ≠ t
    rw [List.append_assoc]
    exact arm_no (List.all_eq_true.1 hl x List.mem_cons_self) ht _
  | x :: l, y :: m, s, t, hl, hm, hT, hs, ht, h => by
    rw [List.all_cons, Bool.and_eq_true] at hl hm
    have h' : ([32] ++ txA x) ++ txAs l ++ s = ([32] ++ txA y) ++ txAs m ++ t := h
    rw [txA_eq, txA_eq] at h'
    simp only [List.append_assoc, List.cons_append, List.nil_append, List.cons.injEq, true_and] at h'
    have hx := hl.1
    have hy := hm.1
    rw [gA_eq] at hx hy
    simp only [Bool.and_eq_true, decide_eq_true_eq] at hx hy
    obtain ⟨hx1, hx2, hx3, -⟩ := hx
    obtain ⟨hy1, hy2, hy3, -⟩ := hy
    rw [gEs_all] at hx3 hy3
    obtain ⟨h1, h2⟩ := txT_tells x.pat hx2 y.pat hy2 _ _ (gdT_ends _ _) (gdT_ends _ _) h'
    obtain ⟨r1, q1⟩ := txB_hd x.body (txAs l ++ s)
    obtain ⟨r2, q2⟩ := txB_hd y.body (txAs m ++ t)
    rw [q1, q2] at h2
    obtain ⟨h3, h4⟩ := cut_guard (by omega) (by omega) hx3 hy3 h2
    rw [h4, ← q2] at q1
    obtain ⟨h5, h6⟩ := hT x List.mem_cons_self y List.mem_cons_self _ _ q1
    obtain ⟨h7, h8⟩ := cut_arms l m s t hl.2 hm.2 (fun a ha b hb => hT a (List.mem_cons_of_mem _ ha) b (List.mem_cons_of_mem _ hb)) hs ht h6
    exact ⟨by rw [List.map_cons, List.map_cons, sAm_eq x, sAm_eq y, h1, h3, h5, h7], h8⟩
theorem txB_tells : ∀ b, gB b = true → ∀ c, gB c = true → TellsB b c := by
  intro b
  induction b using Bd.ind
  rename_i b ihp iha
  intro hb c hc s t h
  have hb' := hb
  have hc' := hc
  rw [gB_eq] at hb' hc'
  simp only [Bool.and_eq_true] at hb' hc'
  obtain ⟨-, hbs, -, -, hba⟩ := hb'
  obtain ⟨-, hcs, -, -, hca⟩ := hc'
  rw [gSts_all] at hbs hcs
  rw [gAs_all] at hba hca
  rw [txB_eq, txB_eq] at h
  simp only [List.append_assoc, List.cons_append, List.nil_append, List.cons.injEq, true_and] at h
  obtain ⟨h1, h2⟩ := cut_stmts b.stmts c.stmts _ _ hbs hcs (fun x r hx => end_noS b hb _ x r hx) (fun x r hx => end_noS c hc _ x r hx) h
  clear h
  rw [sBd_eq b, sBd_eq c, h1]
  have hA : ∀ u v, aftA u → aftA v → txAs b.arms ++ u = txAs c.arms ++ v → b.arms.map sAm = c.arms.map sAm ∧ u = v := fun u v hu hv hh => cut_arms b.arms c.arms u v hba hca (fun x hx y hy => iha x hx (by
    have := List.all_eq_true.1 hba x hx
    rw [gA_eq] at this
    simp only [Bool.and_eq_true] at this
    exact this.2.2.2) y.body (by
    have := List.all_eq_true.1 hca y hy
    rw [gA_eq] at this
    simp only [Bool.and_eq_true] at this
    exact this.2.2.2)) hu hv hh
  rcases shBd b hb with ⟨k, e1, e2, e3, e4, e5, e6, et⟩ | ⟨k, e1, e2, e3, e4, e5, e6, et⟩ | ⟨k, e1, e4, e5, e6, x, p, q, e2, e3, e7, e8, e9, et⟩ | ⟨k, e1, e2, e5, p, e3, e8, et⟩ | ⟨k, e1, e2, e5, e3, e6, et⟩ <;>
    rcases shBd c hc with ⟨k', f1, f2, f3, f4, f5, f6, ft⟩ | ⟨k', f1, f2, f3, f4, f5, f6, ft⟩ | ⟨k', f1, f4, f5, f6, x', p', q', f2, f3, f7, f8, f9, ft⟩ | ⟨k', f1, f2, f5, p', f3, f8, ft⟩ | ⟨k', f1, f2, f5, f3, f6, ft⟩ <;> rw [et, ft] at h2 <;>
    simp only [List.cons_append, List.nil_append, List.append_assoc, List.cons.injEq, true_and] at h2 <;> first | exact absurd h2.1 (by decide) | skip
  · obtain ⟨h3, h4, h5⟩ := cut_call e1 f1 e2 f2 h2
    simp only [List.cons.injEq, true_and] at h5
    exact ⟨by rw [k, k', h3, h4, e3, f3, e4, f4, e5, f5, e6, f6], h5⟩
  · exact ⟨by rw [k, k', e1, f1, e2, f2, e3, f3, e4, f4, e5, f5, e6, f6], h2⟩
  · obtain ⟨h3, h4⟩ := txE_tells x e7 x' f7 _ _ (endsW_cons (by decide)) (endsW_cons (by decide)) h2
    simp only [List.cons.injEq, true_and] at h4
    obtain ⟨h5, h6⟩ := ihp p (by rw [e3]; simp) e8 p' f8 _ _ h4
    simp only [List.cons.injEq, true_and] at h6
    obtain ⟨h7, h8⟩ := ihp q (by rw [e3]; simp) e9 q' f9 _ _ h6
    simp only [List.cons.injEq, true_and] at h8
    exact ⟨by rw [k, k', e1, f1, e2, f2, e3, f3, e4, f4, e5, f5, e6, f6]; simp only [List.map_cons, h3, h5, h7], h8⟩
  · obtain ⟨h3, h4⟩ := hA _ _ (.inr ⟨_, rfl⟩) (.inr ⟨_, rfl⟩) h2
    simp only [List.cons_append, List.nil_append, List.cons.injEq, true_and] at h4
    obtain ⟨h5, h6⟩ := cut_itoa (endsW_cons (by decide)) (endsW_cons (by decide)) h4
    simp only [List.cons.injEq, true_and] at h6
    obtain ⟨h7, h8⟩ := ihp p (by rw [e3]; simp) e8 p' f8 _ _ h6
    simp only [List.cons.injEq, true_and] at h8
    exact ⟨by rw [k, k', e1, f1, e2, f2, e3, f3, h3, e5, f5, h5]; simp only [List.map_cons, h7], h8⟩
  · obtain ⟨h3, h4⟩ := hA _ _ (.inr ⟨_, rfl⟩) (.inl ⟨_, rfl⟩) h2
    simp only [List.cons_append, List.nil_append, List.cons.injEq, true_and] at h4
    exact absurd h4.1 (by decide)
  · obtain ⟨h3, h4⟩ := hA _ _ (.inl ⟨_, rfl⟩) (.inr ⟨_, rfl⟩) h2
    simp only [List.cons_append, List.nil_append, List.cons.injEq, true_and] at h4
    exact absurd h4.1 (by decide)
  · obtain ⟨h3, h4⟩ := hA _ _ (.inl ⟨_, rfl⟩) (.inl ⟨_, rfl⟩) h2
    simp only [List.cons_append, List.nil_append, List.cons.injEq, true_and] at h4
    exact ⟨by rw [k, k', e1, f1, e2, f2, e3, f3, h3, e5, f5, e6, f6], h4⟩
/-! Programs. -/
def sDf (d : Df) : Df := ⟨0, d.name, .slice none 0 0, d.params, sBd d.body⟩
def sPg (p : Pg) : Pg := ⟨.slice none 0 0, p.defs.map sDf, 0, p.main, .slice none 0 0, p.args.map sEx⟩
theorem cut_params {l m : List Bs} (hl : l.all nameS = true) (hm : m.all nameS = true) {s t : Bs} (h : jnT l ++ 41 :: s = jnT m ++ 41 :: t) : l = m ∧ s = t := by
  have hl' := List.all_eq_true.1 hl
  have hm' := List.all_eq_true.1 hm
  have key : ∀ x, nameS x = true → ∃ d r, x = d :: r ∧ d ≠ 41 := fun x hx => by
    obtain ⟨d, r, h1, h2⟩ := cls_name hx
    exact ⟨d, r, h1, by rintro rfl; revert h2; decide⟩
  have h2 := cut_jn (fun x : Bs => x) (fun x : Bs => x) (c := 41) (by decide) (by decide) l m s t (fun a ha b hb s t hs ht h => cut_word _ _ s t (name_wrd (hl' a ha)) (name_wrd (hm' b hb)) hs ht h) (fun a ha => key a (hl' a ha)) (fun a ha => key a (hm' a ha)) (by simpa using h)
  simpa using h2
theorem cut_defs : ∀ (l m : List Df) (s t : Bs), l.all gD = true → m.all gD = true → txDs l ++ (109 :: s) = txDs m ++ (109 :: t) → l.map sDf = m.map sDf ∧ s = t
  | [], [], s, t, _, _, h => by
    have h' : (109 : UInt8) :: s = 109 :: t := h
    simp only [List.cons.injEq, true_and] at h'
    exact ⟨rfl, h'⟩
  | [], y :: m, s, t, _, _, h => by
    have h' : (109 : UInt8) :: s = 97 :: _ := h
    simp only [List.cons.injEq] at h'
    exact absurd h'.1 (by decide)
  | x :: l, [], s, t, _, _, h => by
    have h' : (97 : UInt8) :: _ = 109 :: t := h
    simp only [List.cons.injEq] at h'
    exact absurd h'.1 (by decide)
  | x :: l, y :: m, s, t, hl, hm, h => by
    rw [List.all_cons, Bool.and_eq_true] at hl hm
    have hx := hl.1
    have hy := hm.1
    unfold gD at hx hy
    simp only [Bool.and_eq_true] at hx hy
    have h' : txD x ++ txDs l ++ (109 :: s) = txD y ++ txDs m ++ (109 :: t) := h
    unfold txD at h'
    simp only [List.append_assoc, List.cons_append, List.nil_append, List.cons.injEq, true_and] at h'
    obtain ⟨h1, h2⟩ := cut_word _ _ _ _ (name_wrd hx.1.1) (name_wrd hy.1.1) (endsW_cons (by decide)) (endsW_cons (by decide)) h'
    simp only [List.cons.injEq, true_and] at h2
    obtain ⟨h3, h4⟩ := cut_params hx.2.1 hy.2.1 h2
    simp only [List.cons.injEq, true_and] at h4
    obtain ⟨h5, h6⟩ := txB_tells x.body hx.2.2 y.body hy.2.2 _ _ h4
    simp only [List.cons.injEq, true_and] at h6
    obtain ⟨h7, h8⟩ := cut_defs l m s t hl.2 hm.2 h6
    refine ⟨?_, h8⟩
    rw [List.map_cons, List.map_cons, h7]
    unfold sDf
    rw [h1, h3, h5]
theorem txP_tells (p q : Pg) (hp : gP p = true) (hq : gP q = true) (h : txP p = txP q) : sPg p = sPg q := by
  unfold gP at hp hq
  simp only [Bool.and_eq_true] at hp hq
  obtain ⟨⟨-, hp1, -⟩, hp2, hp3⟩ := hp
  obtain ⟨⟨-, hq1, -⟩, hq2, hq3⟩ := hq
  rw [gEs_all] at hp3 hq3
  unfold txP at h
  simp only [List.cons_append, List.nil_append] at h
  obtain ⟨h1, h2⟩ := cut_defs p.defs q.defs _ _ hp2 hq2 h
  simp only [List.cons.injEq, true_and] at h2
  obtain ⟨h3, h4, -⟩ := cut_call hp1 hq1 hp3 hq3 h2
  unfold sPg
  rw [h1, h3, h4]
end Go.Proofs.YtojogolmcclpoaaDoor
