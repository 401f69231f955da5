/-
  Proved here: texts of unlike statements are unlike, whatever follows them; how the text of a body's end begins. Conditions: none.
-/
import Derived.Test.YtojogolmcclpoaaDoorSbn
namespace Go.Proofs.YtojogolmcclpoaaDoor
set_option linter.unusedVariables false
set_option linter.unusedSimpArgs false
/-- No expression's text is a word that is kept. -/
theorem noE {x : Ex} (hg : gE x = true) {d : UInt8} {r s t : Bs} (hc : clsC d = 3) (hw : ∀ c ∈ d :: r, wrdC c = true) (hk : kwS (d :: r) = true) (hn : d :: r ≠ [115, 101, 108, 102]) (hs : endsW s) (ht : endsW t) : txE x ++ s ≠ d :: r ++ t := by
  intro h
  obtain ⟨d', r', h1, h2⟩ := clsE x hg
  have hcl : clsC d' = 3 := by
    rw [h1, List.cons_append, List.cons_append, List.cons.injEq] at h
    rw [h.1, hc]
  rw [h2] at hcl
  rcases shE x hg with ⟨k, e1, e2, e3, et⟩ | ⟨k, e1, e2, e3, et⟩ | ⟨k, e1, e2, e3, et⟩ | ⟨k, e1, e2, e3, et⟩ | ⟨k, e1, e2, et⟩ | ⟨k, e1, e2, a, b, e3, et⟩ <;> rw [k] at hcl <;> first | exact absurd hcl (by decide) | skip
  · rw [et] at h
    obtain ⟨h3, -⟩ := cut_word _ _ s t (name_wrd e2) hw hs ht h
    have := name_kw e2
    rw [h3, hk] at this
    cases this
  · rw [et] at h
    obtain ⟨h3, -⟩ := cut_word _ _ s t (by decide) hw hs ht h
    exact hn h3.symm
theorem noT {x : Ex} (hg : gT x = true) {d : UInt8} {r s t : Bs} (hc : clsC d = 3) (hw : ∀ c ∈ d :: r, wrdC c = true) (hk : kwS (d :: r) = true) (hn : d :: r ≠ [95]) (hs : endsW s) (ht : endsW t) : txT x ++ s ≠ d :: r ++ t := by
  intro h
  obtain ⟨d', r', h1, h2⟩ := clsT x hg
  have hcl : clsC d' = 3 := by
    rw [h1, List.cons_append, List.cons_append, List.cons.injEq] at h
    rw [h.1, hc]
  rw [h2] at hcl
  rcases shPt x hg with ⟨k, e1, e2, e3, et⟩ | ⟨k, e2, e3, et⟩ | ⟨k, e1, e2, e3, et⟩ | ⟨k, e1, e2, e3, et⟩ | ⟨k, e1, e2, et⟩ <;> rw [k] at hcl <;> first | exact absurd hcl (by decide) | skip
  · rw [et] at h
    obtain ⟨h3, -⟩ := cut_word _ _ s t (by decide) hw hs ht h
    exact hn h3.symm
  · rw [et] at h
    obtain ⟨h3, -⟩ := cut_word _ _ s t (name_wrd e2) hw hs ht h
    have := name_kw e2
    rw [h3, hk] at this
    cases this
/-- A statement without its place and its memory. -/
def sSt (s : St) : St := ⟨s.kind, 0, s.name, s.actor, .slice none 0 0, s.args.map sEx⟩
theorem shSt (s : St) (h : gSt s = true) :
    (s.kind = 1 ∧ nameS s.name = true ∧ s.actor = [] ∧ ∃ x, s.args = [x] ∧ gE x = true ∧ txS s = [108, 101, 116, 32] ++ (s.name ++ ([32, 61, 32] ++ (txE x ++ [59])))) ∨
    (s.kind = 2 ∧ nameS s.name = true ∧ nameS s.actor = true ∧ s.args.all gE = true ∧ txS s = [108, 101, 116, 32] ++ (s.name ++ ([32, 61, 32, 115, 112, 97, 119, 110, 32] ++ (acT s.actor s.args ++ [59])))) ∨
    (s.kind = 3 ∧ s.name = [] ∧ s.actor = [] ∧ s.args.all gE = true ∧ txS s = [115, 101, 110, 100, 32] ++ (jnT (txEs s.args) ++ [59])) ∨
    (s.kind = 4 ∧ s.name = [] ∧ s.actor = [] ∧ s.args.all gE = true ∧ txS s = [111, 117, 116, 32] ++ (jnT (txEs s.args) ++ [59])) := by
  unfold gSt at h
  rw [Bool.and_eq_true, gEs_all] at h
  obtain ⟨h, hl⟩ := h
  have htx : txS s = (if s.kind = 1 then ([108, 101, 116, 32] ++ (s.name ++ [32, 61, 32])) ++ jnT (txEs s.args) else if s.kind = 2 then ([108, 101, 116, 32] ++ (s.name ++ [32, 61, 32, 115, 112, 97, 119, 110, 32])) ++ acT s.actor s.args else if s.kind = 3 then [115, 101, 110, 100, 32] ++ jnT (txEs s.args) else [111, 117, 116, 32] ++ jnT (txEs s.args)) ++ [59] := rfl
  obtain ⟨k, a, n, c, v, l⟩ := s
  unfold stateS callS at h
  simp only [hdS] at h htx hl ⊢
  by_cases k1 : k = 1
  · subst k1
    simp only [if_true, Bool.and_eq_true, eqH_iff, Hd.mk.injEq] at h htx
    have h2 : l.length = 1 := by have := h.2; simp_all
    obtain ⟨x, rfl⟩ : ∃ x, l = [x] := by
      match l, h2 with
      | [x], _ => exact ⟨x, rfl⟩
    refine .inl ⟨rfl, h.1, by have := h.2; simp_all, x, rfl, List.all_eq_true.1 hl x (by simp), ?_⟩
    rw [htx, show jnT (txEs [x]) = txE x from List.append_nil _]
    simp only [List.append_assoc]
  by_cases k2 : k = 2
  · subst k2
    simp only [if_true, if_false, Int.reduceEq, Bool.and_eq_true, eqH_iff, Hd.mk.injEq] at h htx
    exact .inr (.inl ⟨rfl, h.1.1, h.1.2.1, hl, by rw [htx]; simp only [List.append_assoc]⟩)
  by_cases k3 : k = 3
  · subst k3
    simp only [if_true, if_false, Int.reduceEq, eqH_iff, Hd.mk.injEq] at h htx
    exact .inr (.inr (.inl ⟨rfl, by simp_all, by simp_all, hl, by rw [htx]; simp only [List.append_assoc]⟩))
  by_cases k4 : k = 4
  · subst k4
    simp only [if_true, if_false, Int.reduceEq, eqH_iff, Hd.mk.injEq] at h htx
    exact .inr (.inr (.inr ⟨rfl, by simp_all, by simp_all, hl, by rw [htx]; simp only [List.append_assoc]⟩))
  simp only [k1, k2, k3, k4, if_false] at h
  cases h
theorem txS_tells (a b : St) (ha : gSt a = true) (hb : gSt b = true) (s t : Bs) (h : txS a ++ s = txS b ++ t) : sSt a = sSt b ∧ s = t := by
  unfold sSt
  have hsp : ∀ {x : Ex} {n n' : Bs} {u v : Bs}, gE x = true → nameS n = true → nameS n' = true → n ++ ([32, 61, 32] ++ (txE x ++ (59 :: u))) = n' ++ ([32, 61, 32, 115, 112, 97, 119, 110, 32] ++ v) → False := by
    intro x n n' u v hx hn hn' hh
    simp only [List.cons_append, List.nil_append] at hh
    obtain ⟨-, h2⟩ := cut_word _ _ _ _ (name_wrd hn) (name_wrd hn') (endsW_cons (by decide)) (endsW_cons (by decide)) hh
    simp only [List.cons.injEq, true_and] at h2
    exact noE hx (d := 115) (r := [112, 97, 119, 110]) (by decide) (by decide) (by decide) (by decide) (endsW_cons (by decide)) (endsW_cons (by decide)) h2
  rcases shSt a ha with ⟨k, e1, e2, x, e3, e4, et⟩ | ⟨k, e1, e2, e3, et⟩ | ⟨k, e1, e2, e3, et⟩ | ⟨k, e1, e2, e3, et⟩ <;>
    rcases shSt b hb with ⟨k', f1, f2, y, f3, f4, ft⟩ | ⟨k', f1, f2, f3, ft⟩ | ⟨k', f1, f2, f3, ft⟩ | ⟨k', f1, f2, f3, ft⟩ <;> rw [et, ft] at h <;>
    simp only [List.cons_append, List.nil_append, List.append_assoc, List.cons.injEq, true_and] at h <;> first | exact absurd h.1 (by decide) | skip
  · obtain ⟨h1, h2⟩ := cut_word _ _ _ _ (name_wrd e1) (name_wrd f1) (endsW_cons (by decide)) (endsW_cons (by decide)) h
    simp only [List.cons.injEq, true_and] at h2
    obtain ⟨h3, h4⟩ := txE_tells x e4 y f4 _ _ (endsW_cons (by decide)) (endsW_cons (by decide)) h2
    rw [List.cons.injEq] at h4
    exact ⟨by rw [k, k', h1, e2, f2, e3, f3, List.map_cons, List.map_cons, h3, List.map_nil], h4.2⟩
  · exact (hsp e4 e1 f1 (by simpa only [List.cons_append, List.nil_append] using h)).elim
  · exact (hsp f4 f1 e1 (by simpa only [List.cons_append, List.nil_append] using h.symm)).elim
  · obtain ⟨h1, h2⟩ := cut_word _ _ _ _ (name_wrd e1) (name_wrd f1) (endsW_cons (by decide)) (endsW_cons (by decide)) h
    simp only [List.cons.injEq, true_and] at h2
    obtain ⟨h3, h4, h5⟩ := cut_call e2 f2 e3 f3 h2
    rw [List.cons.injEq] at h5
    exact ⟨by rw [k, k', h1, h3, h4], h5.2⟩
  · obtain ⟨h3, h4⟩ := cut_exprs (.inr rfl) e3 f3 h
    exact ⟨by rw [k, k', e1, f1, e2, f2, h3], h4⟩
  · obtain ⟨h3, h4⟩ := cut_exprs (.inr rfl) e3 f3 h
    exact ⟨by rw [k, k', e1, f1, e2, f2, h3], h4⟩
theorem hdSt (s : St) (h : gSt s = true) : ∃ c d r, txS s = c :: d :: r ∧ (c, d) ∈ [((108 : UInt8), (101 : UInt8)), (115, 101), (111, 117)] := by
  rcases shSt s h with ⟨-, -, -, x, -, -, et⟩ | ⟨-, -, -, -, et⟩ | ⟨-, -, -, -, et⟩ | ⟨-, -, -, -, et⟩ <;> rw [et] <;> exact ⟨_, _, _, rfl, by decide⟩
/-- Statements behind which something stands that begins none. -/
theorem cut_stmts : ∀ (l m : List St) (s t : Bs), l.all gSt = true → m.all gSt = true → (∀ x r, gSt x = true → txS x ++ r ≠ s) → (∀ x r, gSt x = true → txS x ++ r ≠ t) → txSs l ++ s = txSs m ++ t → l.map sSt = m.map sSt ∧ s = t
  | [], [], s, t, _, _, _, _, h => ⟨rfl, h⟩
  | [], y :: m, s, t, _, hm, hs, _, h => by
    refine absurd h.symm ?_
    show (txS y ++ [32]) ++ txSs m ++ t ≠ s
    rw [List.append_assoc, List.append_assoc]
    exact hs y _ (List.all_eq_true.1 hm y List.mem_cons_self)
  | x :: l, [], s, t, hl, _, _, ht, h => by
    refine absurd h ?_
    show (txS x ++ [32]) ++ txSs l ++ s ≠ t
    rw [List.append_assoc, List.append_assoc]
    exact ht x _ (List.all_eq_true.1 hl x List.mem_cons_self)
  | x :: l, y :: m, s, t, hl, hm, hs, ht, h => by
    rw [List.all_cons, Bool.and_eq_true] at hl hm
    replace h : txS x ++ (32 :: (txSs l ++ s)) = txS y ++ (32 :: (txSs m ++ t)) := by
      have h' : (txS x ++ [32]) ++ txSs l ++ s = (txS y ++ [32]) ++ txSs m ++ t := h
      simpa only [List.append_assoc, List.cons_append, List.nil_append] using h'
    obtain ⟨h1, h2⟩ := txS_tells x y hl.1 hm.1 _ _ h
    rw [List.cons.injEq] at h2
    obtain ⟨h3, h4⟩ := cut_stmts l m s t hl.2 hm.2 hs ht h2.2
    exact ⟨by rw [List.map_cons, List.map_cons, h1, h3], h4⟩
end Go.Proofs.YtojogolmcclpoaaDoor
