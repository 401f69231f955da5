/-
  Proved here: texts of unlike expressions are unlike, whatever follows them. Conditions: what follows begins no word. ¦ texts of unlike expressions, and of unlike patterns, are unlike, whatever follows them. Conditions: what follows begins no word. ¦ texts of unlike patterns, and of unlike statements, are unlike, whatever follows them. Conditions: what follows a pattern begins no word.
-/
import Derived.Test.YtojogolmcclpoaaDoorSav
section
namespace Go.Proofs.YtojogolmcclpoaaDoor
set_option linter.unusedVariables false
set_option linter.unusedSimpArgs false
def wrdC (c : UInt8) : Bool := namI (bI c) false
/-- What follows begins with no byte of a word. -/
def endsW (s : Bs) : Prop := ∀ c r, s = c :: r → wrdC c = false
theorem endsW_cons {c : UInt8} {s : Bs} (h : wrdC c = false) : endsW (c :: s) := fun d r e => by cases e; exact h
theorem cut_word : ∀ (a b s t : Bs), (∀ c ∈ a, wrdC c = true) → (∀ c ∈ b, wrdC c = true) → endsW s → endsW t → a ++ s = b ++ t → a = b ∧ s = t
  | [], [], s, t, _, _, _, _, h => ⟨rfl, h⟩
  | [], c :: b, s, t, _, hb, hs, _, h => by
    have h1 := hs c (b ++ t) h
    rw [hb c List.mem_cons_self] at h1
    cases h1
  | c :: a, [], s, t, ha, _, _, ht, h => by
    have h1 := ht c (a ++ s) h.symm
    rw [ha c List.mem_cons_self] at h1
    cases h1
  | c :: a, d :: b, s, t, ha, hb, hs, ht, h => by
    rw [List.cons_append, List.cons_append, List.cons.injEq] at h
    obtain ⟨rfl, h⟩ := h
    obtain ⟨rfl, h2⟩ := cut_word a b s t (fun x hx => ha x (List.mem_cons_of_mem _ hx)) (fun x hx => hb x (List.mem_cons_of_mem _ hx)) hs ht h
    exact ⟨rfl, h2⟩
theorem namI_false {x : Int} {f : Bool} (h : namI x f = true) : namI x false = true := by
  unfold namI at h ⊢
  by_cases hd : digI x = true
  · rw [if_pos hd]; rfl
  · rw [if_neg hd] at h ⊢; exact h
theorem allN_wrd : ∀ (a : Bs) (f : Bool), allN a f = true → ∀ c ∈ a, wrdC c = true
  | [], _, _, c, hc => by cases hc
  | d :: r, f, h, c, hc => by
    unfold allN at h
    rw [Bool.and_eq_true] at h
    rcases List.mem_cons.1 hc with rfl | hc
    · exact namI_false h.1
    · exact allN_wrd r false h.2 c hc
theorem name_wrd {s : Bs} (h : nameS s = true) : ∀ c ∈ s, wrdC c = true := by
  unfold nameS at h
  simp only [Bool.and_eq_true] at h
  exact allN_wrd s true h.2
/-- A name begins with a letter. -/
theorem name_hd {s : Bs} (h : nameS s = true) : ∃ c r, s = c :: r ∧ digI (bI c) = false ∧ wrdC c = true := by
  have hw := name_wrd h
  unfold nameS at h
  simp only [Bool.and_eq_true, decide_eq_true_eq] at h
  cases s with
  | nil => simp at h
  | cons c r =>
    refine ⟨c, r, rfl, ?_, hw c List.mem_cons_self⟩
    have h1 := h.2
    unfold allN namI at h1
    rw [Bool.and_eq_true] at h1
    by_cases hd : digI (bI c) = true
    · rw [if_pos hd] at h1; simp at h1
    · simpa using hd
theorem name_kw {s : Bs} (h : nameS s = true) : kwS s = false := by
  unfold nameS at h
  simp only [Bool.and_eq_true, Bool.not_eq_true'] at h
  exact h.1.2
/-! Numbers. -/
def valD : Bs → Nat → Nat
  | [], n => n
  | c :: r, n => valD r (10 * n + (c.toNat - 48))
theorem valD_snoc : ∀ (l : Bs) (c : UInt8) (n : Nat), valD (l ++ [c]) n = 10 * valD l n + (c.toNat - 48)
  | [], c, n => rfl
  | d :: l, c, n => valD_snoc l c _
theorem decL_lt (u : Nat) (h : u < 10) : Lib.decDigits u = [UInt8.ofNat (48 + u)] := by rw [Lib.decDigits, dif_pos h]
theorem decL_ge (u : Nat) (h : ¬ u < 10) : Lib.decDigits u = Lib.decDigits (u / 10) ++ [UInt8.ofNat (48 + u % 10)] := by rw [Lib.decDigits, dif_neg h]
theorem ofNat_dig {d : Nat} (h : d < 10) : (UInt8.ofNat (48 + d)).toNat = 48 + d := by
  rw [UInt8.toNat_ofNat']
  omega
theorem valD_dec (u : Nat) : valD (Lib.decDigits u) 0 = u := by
  induction u using Nat.strongRecOn with
  | _ u ih =>
    by_cases h : u < 10
    · rw [decL_lt u h]
      show 10 * 0 + ((UInt8.ofNat (48 + u)).toNat - 48) = u
      rw [ofNat_dig h]
      omega
    · rw [decL_ge u h, valD_snoc, ih (u / 10) (by omega), ofNat_dig (Nat.mod_lt _ (by decide))]
      omega
theorem decL_inj {u v : Nat} (h : Lib.decDigits u = Lib.decDigits v) : u = v := by
  have := congrArg (fun l => valD l 0) h
  simpa only [valD_dec] using this
theorem decL_dig (u : Nat) : ∀ c ∈ Lib.decDigits u, digI (bI c) = true := by
  have one : ∀ d, d < 10 → digI (bI (UInt8.ofNat (48 + d))) = true := fun d hd => by
    unfold digI bI
    rw [ofNat_dig hd]
    simp
    omega
  induction u using Nat.strongRecOn with
  | _ u ih =>
    intro c hc
    by_cases h : u < 10
    · rw [decL_lt u h, List.mem_singleton] at hc
      subst hc
      exact one u h
    · rw [decL_ge u h, List.mem_append, List.mem_singleton] at hc
      rcases hc with hc | rfl
      · exact ih (u / 10) (by omega) c hc
      · exact one _ (Nat.mod_lt _ (by decide))
theorem dig_wrd {c : UInt8} (h : digI (bI c) = true) : wrdC c = true := by
  unfold wrdC namI
  rw [if_pos h]; rfl
theorem decL_ne (u : Nat) : Lib.decDigits u ≠ [] := by
  by_cases h : u < 10
  · rw [decL_lt u h]; simp
  · rw [decL_ge u h]; simp
theorem decL_hd (u : Nat) : ∃ c r, Lib.decDigits u = c :: r ∧ digI (bI c) = true := by
  cases h : Lib.decDigits u with
  | nil => exact absurd h (decL_ne u)
  | cons c r => exact ⟨c, r, rfl, decL_dig u c (by rw [h]; exact List.mem_cons_self)⟩
theorem cutL_dec {u v : Nat} {s t : Bs} (hs : endsW s) (ht : endsW t) (h : Lib.decDigits u ++ s = Lib.decDigits v ++ t) : u = v ∧ s = t := by
  obtain ⟨h1, h2⟩ := cut_word _ _ s t (fun c hc => dig_wrd (decL_dig u c hc)) (fun c hc => dig_wrd (decL_dig v c hc)) hs ht h
  exact ⟨decL_inj h1, h2⟩
/-! Several, with a comma between them. -/
def tlT (l : List Bs) : Bs := (l.map fun y => [44, 32] ++ y).flatten
theorem jnT_cons (x : Bs) (l : List Bs) : jnT (x :: l) = x ++ tlT l := rfl
theorem tlT_cons (x : Bs) (l : List Bs) : tlT (x :: l) = 44 :: 32 :: (x ++ tlT l) := rfl
theorem endsW_tl (l : List Bs) {c : UInt8} (hc : wrdC c = false) (s : Bs) : endsW (tlT l ++ c :: s) := by
  cases l with
  | nil => exact endsW_cons hc
  | cons x l => rw [tlT_cons]; exact endsW_cons (by decide)
section
variable {α β : Type} (f : α → Bs) (g : α → β)
/-- Unlike ones have unlike texts, whatever follows. -/
def Tells (x y : α) : Prop := ∀ s t, endsW s → endsW t → f x ++ s = f y ++ t → g x = g y ∧ s = t
theorem cut_tl {c : UInt8} (hc : wrdC c = false) (h44 : c ≠ 44) : ∀ (l m : List α) (s t : Bs), (∀ x ∈ l, ∀ y ∈ m, Tells f g x y) → tlT (l.map f) ++ c :: s = tlT (m.map f) ++ c :: t → l.map g = m.map g ∧ s = t
  | [], [], s, t, _, h => ⟨rfl, by simpa [tlT] using h⟩
  | [], y :: m, s, t, _, h => by
    rw [List.map_cons, tlT_cons] at h
    simp only [List.map_nil, tlT, List.flatten_nil, List.nil_append, List.cons_append, List.cons.injEq] at h
    exact absurd h.1 h44
  | x :: l, [], s, t, _, h => by
    rw [List.map_cons, tlT_cons] at h
    simp only [List.map_nil, tlT, List.flatten_nil, List.nil_append, List.cons_append, List.cons.injEq] at h
    exact absurd h.1.symm h44
  | x :: l, y :: m, s, t, hT, h => by
    rw [List.map_cons, List.map_cons, tlT_cons, tlT_cons] at h
    simp only [List.cons_append, List.cons.injEq, true_and, List.append_assoc] at h
    obtain ⟨h1, h2⟩ := hT x List.mem_cons_self y List.mem_cons_self _ _ (endsW_tl _ hc _) (endsW_tl _ hc _) h
    obtain ⟨h3, h4⟩ := cut_tl hc h44 l m s t (fun a ha b hb => hT a (List.mem_cons_of_mem _ ha) b (List.mem_cons_of_mem _ hb)) h2
    exact ⟨by rw [List.map_cons, List.map_cons, h1, h3], h4⟩
/-- A list behind which c stands; no text of one begins with c. -/
theorem cut_jn {c : UInt8} (hc : wrdC c = false) (h44 : c ≠ 44) (l m : List α) (s t : Bs) (hT : ∀ x ∈ l, ∀ y ∈ m, Tells f g x y) (hl : ∀ x ∈ l, ∃ d r, f x = d :: r ∧ d ≠ c) (hm : ∀ x ∈ m, ∃ d r, f x = d :: r ∧ d ≠ c)
    (h : jnT (l.map f) ++ c :: s = jnT (m.map f) ++ c :: t) : l.map g = m.map g ∧ s = t := by
  cases l with
  | nil =>
    cases m with
    | nil => exact ⟨rfl, by simpa [jnT] using h⟩
    | cons y m =>
      obtain ⟨d, r, hd, hne⟩ := hm y List.mem_cons_self
      rw [List.map_cons, jnT_cons, hd] at h
      simp only [List.map_nil, jnT, List.nil_append, List.cons_append, List.cons.injEq] at h
      exact absurd h.1.symm hne
  | cons x l =>
    cases m with
    | nil =>
      obtain ⟨d, r, hd, hne⟩ := hl x List.mem_cons_self
      rw [List.map_cons, jnT_cons, hd] at h
      simp only [List.map_nil, jnT, List.nil_append, List.cons_append, List.cons.injEq] at h
      exact absurd h.1 hne
    | cons y m =>
      rw [List.map_cons, List.map_cons, jnT_cons, jnT_cons, List.append_assoc, List.append_assoc] at h
      obtain ⟨h1, h2⟩ := hT x List.mem_cons_self y List.mem_cons_self _ _ (endsW_tl _ hc _) (endsW_tl _ hc _) h
      obtain ⟨h3, h4⟩ := cut_tl f g hc h44 l m s t (fun a ha b hb => hT a (List.mem_cons_of_mem _ ha) b (List.mem_cons_of_mem _ hb)) h2
      exact ⟨by rw [List.map_cons, List.map_cons, h1, h3], h4⟩
end
end Go.Proofs.YtojogolmcclpoaaDoor
end
section
namespace Go.Proofs.YtojogolmcclpoaaDoor
set_option linter.unusedVariables false
set_option linter.unusedSimpArgs false
mutual
/-- A tree without its places and its memory. -/
def sEx : Ex → Ex
  | .mk k a n s v l => .mk k 0 n s (.slice none 0 0) (sExs l)
def sExs : List Ex → List Ex
  | [] => []
  | x :: l => sEx x :: sExs l
end
theorem sExs_map (l : List Ex) : sExs l = l.map sEx := by
  induction l with
  | nil => rfl
  | cons x l ih => rw [List.map_cons, ← ih]; rfl
theorem sEx_eq (e : Ex) : sEx e = .mk e.kind 0 e.n e.name (.slice none 0 0) (e.args.map sEx) := by
  cases e with
  | mk k a n s v l => rw [← sExs_map]; rfl
/-- Which sort of text begins so. -/
def clsC (d : UInt8) : Nat := if digI (bI d) = true then 1 else if d = 39 then 2 else if wrdC d = true then 3 else if d = 123 then 5 else if d = 40 then 6 else if d = 45 then 1 else 0
theorem cls_name {s : Bs} (h : nameS s = true) : ∃ d r, s = d :: r ∧ clsC d = 3 := by
  obtain ⟨d, r, hs, hd, hw⟩ := name_hd h
  refine ⟨d, r, hs, ?_⟩
  unfold clsC
  rw [if_neg (by rw [hd]; decide), if_neg (by rintro rfl; revert hw; decide), if_pos hw]
theorem cls_dec (u : Nat) : ∃ d r, Lib.decDigits u = d :: r ∧ clsC d = 1 := by
  obtain ⟨d, r, hs, hd⟩ := decL_hd u
  exact ⟨d, r, hs, if_pos hd⟩
theorem shE (e : Ex) (h : gE e = true) :
    (e.kind = 1 ∧ 0 ≤ e.n ∧ e.name = [] ∧ e.args = [] ∧ txE e = Lib.decDigits e.n.natAbs) ∨
    (e.kind = 2 ∧ e.n = 0 ∧ nameS e.name = true ∧ e.args = [] ∧ txE e = 39 :: e.name) ∨
    (e.kind = 3 ∧ e.n = 0 ∧ nameS e.name = true ∧ e.args = [] ∧ txE e = e.name) ∨
    (e.kind = 4 ∧ e.n = 0 ∧ e.name = [] ∧ e.args = [] ∧ txE e = [115, 101, 108, 102]) ∨
    (e.kind = 5 ∧ e.n = 0 ∧ e.name = [] ∧ txE e = 123 :: (jnT (e.args.map txE) ++ [125])) ∨
    (e.kind = 6 ∧ e.n = 0 ∧ recS e.name = true ∧ ∃ x y, e.args = [x, y] ∧ txE e = 40 :: (txE x ++ 32 :: (e.name ++ 32 :: (txE y ++ [41])))) := by
  rw [gE_eq, Bool.and_eq_true] at h
  have htx := txE_eq e
  rw [txEs_map] at htx
  replace h := h.1
  obtain ⟨k, a, n, s, v, l⟩ := e
  unfold reckS at h
  simp only [hdE, Ex.kind, Ex.n, Ex.name, Ex.args] at h htx ⊢
  by_cases k1 : k = 1
  · subst k1
    simp only [if_true, Bool.and_eq_true, eqH_iff, inI, decide_eq_true_eq, Hd.mk.injEq] at h htx
    have h1 : s = [] := h.2.2.2.1
    have h2 : l = [] := by have := h.2; simp_all
    refine .inl ⟨rfl, h.1.1, h1, h2, ?_⟩
    rw [htx]
    unfold Lib.itoa
    rw [if_neg (by omega)]
    congr 1
    omega
  by_cases k2 : k = 2
  · subst k2
    simp only [if_true, if_false, Int.reduceEq, true_or, Bool.and_eq_true, eqH_iff, Hd.mk.injEq] at h htx
    exact .inr (.inl ⟨rfl, by have := h.2; simp_all, h.1, by have := h.2; simp_all, htx⟩)
  by_cases k3 : k = 3
  · subst k3
    simp only [if_true, if_false, Int.reduceEq, or_true, Bool.and_eq_true, eqH_iff, Hd.mk.injEq] at h htx
    exact .inr (.inr (.inl ⟨rfl, by have := h.2; simp_all, h.1, by have := h.2; simp_all, htx⟩))
  by_cases k4 : k = 4
  · subst k4
    simp only [if_true, if_false, Int.reduceEq, or_self, eqH_iff, Hd.mk.injEq] at h htx
    exact .inr (.inr (.inr (.inl ⟨rfl, by simp_all, by simp_all, by simp_all, htx⟩)))
  by_cases k5 : k = 5
  · subst k5
    simp only [if_true, if_false, Int.reduceEq, or_self, Bool.and_eq_true, eqH_iff, Hd.mk.injEq] at h htx
    exact .inr (.inr (.inr (.inr (.inl ⟨rfl, by simp_all, by simp_all, htx⟩))))
  by_cases k6 : k = 6
  · subst k6
    simp only [if_true, if_false, Int.reduceEq, or_self, Bool.and_eq_true, eqH_iff, Hd.mk.injEq] at h htx
    have h2 : l.length = 2 := by have := h.2; simp_all
    obtain ⟨x, y, rfl⟩ : ∃ x y, l = [x, y] := by
      match l, h2 with
      | [x, y], _ => exact ⟨x, y, rfl⟩
    refine .inr (.inr (.inr (.inr (.inr ⟨rfl, by have := h.2; simp_all, h.1, x, y, rfl, ?_⟩))))
    rw [htx]
    simp
  simp only [k1, k2, k3, k4, k5, k6, if_false, or_self] at h
  cases h
theorem clsE (e : Ex) (h : gE e = true) : ∃ d r, txE e = d :: r ∧ clsC d = (if e.kind = 4 then 3 else e.kind.toNat) := by
  rcases shE e h with ⟨k, -, -, -, ht⟩ | ⟨k, -, -, -, ht⟩ | ⟨k, -, hn, -, ht⟩ | ⟨k, -, -, -, ht⟩ | ⟨k, -, -, ht⟩ | ⟨k, -, -, x, y, -, ht⟩
  all_goals rw [ht, k]
  · exact cls_dec _
  · exact ⟨_, _, rfl, by decide⟩
  · exact cls_name hn
  · exact ⟨_, _, rfl, by decide⟩
  · exact ⟨_, _, rfl, by decide⟩
  · exact ⟨_, _, rfl, by decide⟩
theorem clsE_ne (e : Ex) (h : gE e = true) : ∃ d r, txE e = d :: r ∧ d ≠ 41 ∧ d ≠ 125 ∧ d ≠ 59 := by
  obtain ⟨d, r, hd, hc⟩ := clsE e h
  have h0 : clsC d ≠ 0 := by
    rw [hc]
    rcases shE e h with ⟨k, -⟩ | ⟨k, -⟩ | ⟨k, -⟩ | ⟨k, -⟩ | ⟨k, -⟩ | ⟨k, -⟩ <;> rw [k] <;> decide
  exact ⟨d, r, hd, by rintro rfl; exact h0 (by decide), by rintro rfl; exact h0 (by decide), by rintro rfl; exact h0 (by decide)⟩
theorem cut_op {a b s t : Bs} (ha : recS a = true) (hb : recS b = true) (h : a ++ 32 :: s = b ++ 32 :: t) : a = b ∧ s = t := by
  unfold recS at ha hb
  simp only [Bool.or_eq_true, beq_iff_eq] at ha hb
  rcases ha with (((rfl | rfl) | rfl) | rfl) | rfl <;> rcases hb with (((rfl | rfl) | rfl) | rfl) | rfl <;> simp at h ⊢ <;> exact h
theorem txE_tells : ∀ e, gE e = true → ∀ f, gE f = true → Tells txE sEx e f := by
  intro e
  induction e using Ex.ind
  rename_i e ih
  intro hg f hf s t hs ht h
  have hge := hg
  have hgf := hf
  rw [gE_eq, Bool.and_eq_true, gEs_all] at hge hgf
  have hge := List.all_eq_true.1 hge.2
  have hgf := List.all_eq_true.1 hgf.2
  obtain ⟨d, r, h1, h2⟩ := clsE e hg
  obtain ⟨d', r', h3, h4⟩ := clsE f hf
  have hcl : (if e.kind = 4 then 3 else e.kind.toNat) = (if f.kind = 4 then 3 else f.kind.toNat) := by
    rw [← h2, ← h4]
    rw [h1, h3, List.cons_append, List.cons_append, List.cons.injEq] at h
    rw [h.1]
  clear h1 h2 h3 h4
  rw [sEx_eq e, sEx_eq f]
  rcases shE e hg with ⟨k, e1, e2, e3, et⟩ | ⟨k, e1, e2, e3, et⟩ | ⟨k, e1, e2, e3, et⟩ | ⟨k, e1, e2, e3, et⟩ | ⟨k, e1, e2, et⟩ | ⟨k, e1, e2, x, y, e3, et⟩ <;>
    rcases shE f hf with ⟨k', f1, f2, f3, ft⟩ | ⟨k', f1, f2, f3, ft⟩ | ⟨k', f1, f2, f3, ft⟩ | ⟨k', f1, f2, f3, ft⟩ | ⟨k', f1, f2, ft⟩ | ⟨k', f1, f2, x', y', f3, ft⟩ <;>
    rw [k, k'] at hcl <;> first | exact absurd hcl (by decide) | skip
  all_goals rw [et, ft] at h; clear hcl
  · obtain ⟨h1, h2⟩ := cutL_dec hs ht h
    refine ⟨?_, h2⟩
    have : e.n = f.n := by omega
    rw [k, k', this, e2, f2, e3, f3]
  · rw [List.cons_append, List.cons_append, List.cons.injEq] at h
    obtain ⟨h1, h2⟩ := cut_word _ _ s t (name_wrd e2) (name_wrd f2) hs ht h.2
    exact ⟨by rw [k, k', e1, f1, h1, e3, f3], h2⟩
  · obtain ⟨h1, h2⟩ := cut_word _ _ s t (name_wrd e2) (name_wrd f2) hs ht h
    exact ⟨by rw [k, k', e1, f1, h1, e3, f3], h2⟩
  · obtain ⟨h1, h2⟩ := cut_word _ _ s t (name_wrd e2) (by decide) hs ht h
    have := name_kw e2
    rw [h1] at this
    exact absurd this (by decide)
  · obtain ⟨h1, h2⟩ := cut_word _ _ s t (by decide) (name_wrd f2) hs ht h
    have := name_kw f2
    rw [← h1] at this
    exact absurd this (by decide)
  · exact ⟨by rw [k, k', e1, f1, e2, f2, e3, f3], List.append_cancel_left h⟩
  · rw [List.cons_append, List.cons_append, List.cons.injEq, List.append_assoc, List.append_assoc] at h
    obtain ⟨h1, h2⟩ := cut_jn txE sEx (c := 125) (by decide) (by decide) e.args f.args s t (fun a ha b hb => ih a ha (hge a ha) b (hgf b hb))
      (fun a ha => by obtain ⟨d, r, hd, -, hn, -⟩ := clsE_ne a (hge a ha); exact ⟨d, r, hd, hn⟩) (fun a ha => by obtain ⟨d, r, hd, -, hn, -⟩ := clsE_ne a (hgf a ha); exact ⟨d, r, hd, hn⟩) h.2
    exact ⟨by rw [k, k', e1, f1, e2, f2, h1], h2⟩
  · rw [e3] at ih hge
    rw [f3] at hgf
    simp only [List.cons_append, List.cons.injEq, true_and, List.append_assoc, List.nil_append] at h
    obtain ⟨h1, h2⟩ := ih x (by simp) (hge x (by simp)) x' (hgf x' (by simp)) _ _ (endsW_cons (by decide)) (endsW_cons (by decide)) h
    rw [List.cons.injEq] at h2
    obtain ⟨h3, h4⟩ := cut_op e2 f2 h2.2
    obtain ⟨h5, h6⟩ := ih y (by simp) (hge y (by simp)) y' (hgf y' (by simp)) _ _ (endsW_cons (by decide)) (endsW_cons (by decide)) h4
    rw [List.cons.injEq] at h6
    exact ⟨by rw [k, k', e1, f1, h3, e3, f3, List.map_cons, List.map_cons, List.map_cons, List.map_cons, h1, h5], h6.2⟩
end Go.Proofs.YtojogolmcclpoaaDoor
end
section
namespace Go.Proofs.YtojogolmcclpoaaDoor
set_option linter.unusedVariables false
set_option linter.unusedSimpArgs false
theorem cls_itoa (n : Int) : ∃ d r, Lib.itoa n = d :: r ∧ clsC d = 1 := by
  unfold Lib.itoa
  by_cases h : n < 0
  · rw [if_pos h]; exact ⟨_, _, rfl, by decide⟩
  · rw [if_neg h]; exact cls_dec _
theorem cut_itoa {n m : Int} {s t : Bs} (hs : endsW s) (ht : endsW t) (h : Lib.itoa n ++ s = Lib.itoa m ++ t) : n = m ∧ s = t := by
  have nodig : ∀ (u : Nat) (a b : Bs), Lib.decDigits u ++ a ≠ 45 :: b := fun u a b e => by
    obtain ⟨d, r, h1, h2⟩ := decL_hd u
    rw [h1, List.cons_append, List.cons.injEq] at e
    rw [e.1] at h2
    revert h2; decide
  unfold Lib.itoa at h
  by_cases hn : n < 0 <;> by_cases hm : m < 0
  · rw [if_pos hn, if_pos hm, List.cons_append, List.cons_append, List.cons.injEq] at h
    obtain ⟨h1, h2⟩ := cutL_dec hs ht h.2
    exact ⟨by omega, h2⟩
  · rw [if_pos hn, if_neg hm, List.cons_append] at h
    exact absurd h.symm (nodig _ _ _)
  · rw [if_neg hn, if_pos hm, List.cons_append] at h
    exact absurd h (nodig _ _ _)
  · rw [if_neg hn, if_neg hm] at h
    obtain ⟨h1, h2⟩ := cutL_dec hs ht h
    exact ⟨by omega, h2⟩
theorem shPt (e : Ex) (h : gT e = true) :
    (e.kind = 1 ∧ e.n = 0 ∧ e.name = [] ∧ e.args = [] ∧ txT e = [95]) ∨
    (e.kind = 2 ∧ e.name = [] ∧ e.args = [] ∧ txT e = Lib.itoa e.n) ∨
    (e.kind = 3 ∧ e.n = 0 ∧ nameS e.name = true ∧ e.args = [] ∧ txT e = 39 :: e.name) ∨
    (e.kind = 4 ∧ e.n = 0 ∧ nameS e.name = true ∧ e.args = [] ∧ txT e = e.name) ∨
    (e.kind = 5 ∧ e.n = 0 ∧ e.name = [] ∧ txT e = 123 :: (jnT (e.args.map txT) ++ [125])) := by
  rw [gT_eq, Bool.and_eq_true] at h
  have htx := txT_eq e
  rw [txTs_map] at htx
  replace h := h.1
  obtain ⟨k, a, n, s, v, l⟩ := e
  unfold matchS at h
  simp only [hdT, Ex.kind, Ex.n, Ex.name, Ex.args] at h htx ⊢
  by_cases k1 : k = 1
  · subst k1
    simp only [if_true, eqH_iff, Hd.mk.injEq] at h htx
    exact .inl ⟨rfl, by simp_all, by simp_all, by simp_all, htx⟩
  by_cases k2 : k = 2
  · subst k2
    simp only [if_true, if_false, Int.reduceEq, Bool.and_eq_true, eqH_iff, Hd.mk.injEq] at h htx
    exact .inr (.inl ⟨rfl, by simp_all, by simp_all, htx⟩)
  by_cases k3 : k = 3
  · subst k3
    simp only [if_true, if_false, Int.reduceEq, true_or, Bool.and_eq_true, eqH_iff, Hd.mk.injEq] at h htx
    exact .inr (.inr (.inl ⟨rfl, by simp_all, h.1, by simp_all, htx⟩))
  by_cases k4 : k = 4
  · subst k4
    simp only [if_true, if_false, Int.reduceEq, or_true, Bool.and_eq_true, eqH_iff, Hd.mk.injEq] at h htx
    exact .inr (.inr (.inr (.inl ⟨rfl, by simp_all, h.1, by simp_all, htx⟩)))
  by_cases k5 : k = 5
  · subst k5
    simp only [if_true, if_false, Int.reduceEq, or_self, Bool.and_eq_true, eqH_iff, Hd.mk.injEq] at h htx
    exact .inr (.inr (.inr (.inr ⟨rfl, by simp_all, by simp_all, htx⟩)))
  simp only [k1, k2, k3, k4, k5, if_false, or_self] at h
  cases h
theorem clsT (e : Ex) (h : gT e = true) : ∃ d r, txT e = d :: r ∧ clsC d = (if e.kind = 1 ∨ e.kind = 4 then 3 else if e.kind = 2 then 1 else if e.kind = 3 then 2 else 5) := by
  rcases shPt e h with ⟨k, -, -, -, ht⟩ | ⟨k, -, -, ht⟩ | ⟨k, -, hn, -, ht⟩ | ⟨k, -, hn, -, ht⟩ | ⟨k, -, -, ht⟩
  all_goals rw [ht, k]
  · exact ⟨_, _, rfl, by decide⟩
  · exact cls_itoa _
  · exact ⟨_, _, rfl, by decide⟩
  · exact cls_name hn
  · exact ⟨_, _, rfl, by decide⟩
theorem clsT_ne (e : Ex) (h : gT e = true) : ∃ d r, txT e = d :: r ∧ d ≠ 41 ∧ d ≠ 125 := by
  obtain ⟨d, r, hd, hc⟩ := clsT e h
  have h0 : clsC d ≠ 0 := by
    rw [hc]
    split
    · decide
    · split
      · decide
      · split <;> decide
  exact ⟨d, r, hd, by rintro rfl; exact h0 (by decide), by rintro rfl; exact h0 (by decide)⟩
theorem txT_tells : ∀ e, gT e = true → ∀ f, gT f = true → Tells txT sEx e f := by
  intro e
  induction e using Ex.ind
  rename_i e ih
  intro hg f hf s t hs ht h
  have hge := hg
  have hgf := hf
  rw [gT_eq, Bool.and_eq_true, gTs_all] at hge hgf
  have hge := List.all_eq_true.1 hge.2
  have hgf := List.all_eq_true.1 hgf.2
  obtain ⟨d, r, h1, h2⟩ := clsT e hg
  obtain ⟨d', r', h3, h4⟩ := clsT f hf
  have hcl := h2.symm.trans ((show clsC d = clsC d' by rw [h1, h3, List.cons_append, List.cons_append, List.cons.injEq] at h; rw [h.1]).trans h4)
  clear h1 h2 h3 h4
  rw [sEx_eq e, sEx_eq f]
  rcases shPt e hg with ⟨k, e1, e2, e3, et⟩ | ⟨k, e2, e3, et⟩ | ⟨k, e1, e2, e3, et⟩ | ⟨k, e1, e2, e3, et⟩ | ⟨k, e1, e2, et⟩ <;>
    rcases shPt f hf with ⟨k', f1, f2, f3, ft⟩ | ⟨k', f2, f3, ft⟩ | ⟨k', f1, f2, f3, ft⟩ | ⟨k', f1, f2, f3, ft⟩ | ⟨k', f1, f2, ft⟩ <;>
    rw [k, k'] at hcl <;> first | exact absurd hcl (by decide) | skip
  all_goals rw [et, ft] at h; clear hcl
  · exact ⟨by rw [k, k', e1, f1, e2, f2, e3, f3], List.append_cancel_left h⟩
  · obtain ⟨h1, h2⟩ := cut_word _ _ s t (by decide) (name_wrd f2) hs ht h
    have := name_kw f2
    rw [← h1] at this
    exact absurd this (by decide)
  · obtain ⟨h1, h2⟩ := cut_itoa hs ht h
    exact ⟨by rw [k, k', h1, e2, f2, e3, f3], h2⟩
  · rw [List.cons_append, List.cons_append, List.cons.injEq] at h
    obtain ⟨h1, h2⟩ := cut_word _ _ s t (name_wrd e2) (name_wrd f2) hs ht h.2
    exact ⟨by rw [k, k', e1, f1, h1, e3, f3], h2⟩
  · obtain ⟨h1, h2⟩ := cut_word _ _ s t (name_wrd e2) (by decide) hs ht h
    have := name_kw e2
    rw [h1] at this
    exact absurd this (by decide)
  · obtain ⟨h1, h2⟩ := cut_word _ _ s t (name_wrd e2) (name_wrd f2) hs ht h
    exact ⟨by rw [k, k', e1, f1, h1, e3, f3], h2⟩
  · rw [List.cons_append, List.cons_append, List.cons.injEq, List.append_assoc, List.append_assoc] at h
    obtain ⟨h1, h2⟩ := cut_jn txT sEx (c := 125) (by decide) (by decide) e.args f.args s t (fun a ha b hb => ih a ha (hge a ha) b (hgf b hb))
      (fun a ha => by obtain ⟨d, r, hd, -, hn⟩ := clsT_ne a (hge a ha); exact ⟨d, r, hd, hn⟩) (fun a ha => by obtain ⟨d, r, hd, -, hn⟩ := clsT_ne a (hgf a ha); exact ⟨d, r, hd, hn⟩) h.2
    exact ⟨by rw [k, k', e1, f1, e2, f2, h1], h2⟩
/-! Lists of expressions, calls. -/
theorem cut_exprs {c : UInt8} (hc : c = 41 ∨ c = 59) {l m : List Ex} (hl : l.all gE = true) (hm : m.all gE = true) {s t : Bs} (h : jnT (txEs l) ++ c :: s = jnT (txEs m) ++ c :: t) : l.map sEx = m.map sEx ∧ s = t := by
  rw [txEs_map, txEs_map] at h
  have hl' := List.all_eq_true.1 hl
  have hm' := List.all_eq_true.1 hm
  refine cut_jn txE sEx (c := c) (by rcases hc with rfl | rfl <;> decide) (by rcases hc with rfl | rfl <;> decide) l m s t (fun a ha b hb => txE_tells a (hl' a ha) b (hm' b hb)) ?_ ?_ h
  · intro a ha
    obtain ⟨d, r, hd, h1, -, h3⟩ := clsE_ne a (hl' a ha)
    exact ⟨d, r, hd, by rcases hc with rfl | rfl <;> assumption⟩
  · intro a ha
    obtain ⟨d, r, hd, h1, -, h3⟩ := clsE_ne a (hm' a ha)
    exact ⟨d, r, hd, by rcases hc with rfl | rfl <;> assumption⟩
theorem cut_call {a b : Bs} (ha : nameS a = true) (hb : nameS b = true) {l m : List Ex} (hl : l.all gE = true) (hm : m.all gE = true) {s t : Bs} (h : acT a l ++ s = acT b m ++ t) : a = b ∧ l.map sEx = m.map sEx ∧ s = t := by
  unfold acT at h
  simp only [List.append_assoc, List.cons_append, List.nil_append] at h
  obtain ⟨h1, h2⟩ := cut_word _ _ _ _ (name_wrd ha) (name_wrd hb) (endsW_cons (by decide)) (endsW_cons (by decide)) h
  rw [List.cons.injEq] at h2
  obtain ⟨h3, h4⟩ := cut_exprs (.inl rfl) hl hm h2.2
  exact ⟨h1, h3, h4⟩
end Go.Proofs.YtojogolmcclpoaaDoor
end
