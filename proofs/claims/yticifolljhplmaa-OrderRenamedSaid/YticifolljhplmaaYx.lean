/-
  Proved here: the rules hang on which IDs are alike, not on the IDs. Conditions: none.
-/
import Derived.Test.YticifolljhplmaaYo
namespace Go.Proofs.Yticifolljhplmaa
open Go.RowKit Go.Sort Go.Shelf
set_option linter.unusedVariables false
set_option linter.unusedSimpArgs false
/-- One operation is the other one, its IDs turned by g; of the values of its slices nothing is said. -/
structure Ren (g : Int → Int) (d d' : OpD) : Prop where
  load : d'.load = d.load
  store : d'.store = d.store
  fence : d'.fence = d.fence
  addr : d'.addr = d.addr
  size : d'.size = d.size
  aq : d'.aq = d.aq
  rl : d'.rl = d.rl
  pred : d'.pred = d.pred
  succ : d'.succ = d.succ
  id : d'.id = g d.id
  from_ : d'.from_ = d.from_.map g
  pair : d'.pair = g d.pair
  addrs : d'.addrs = d.addrs.map g
  datas : d'.datas = d.datas.map g
  ctrls : d'.ctrls = d.ctrls.map g
/-- All its IDs are ones of which S speaks. -/
structure OpD.In (S : Int → Prop) (d : OpD) : Prop where
  id : S d.id
  from_ : ∀ x ∈ d.from_, S x
  pair : S d.pair
  addrs : ∀ x ∈ d.addrs, S x
  datas : ∀ x ∈ d.datas, S x
  ctrls : ∀ x ∈ d.ctrls, S x
def InjOn (S : Int → Prop) (g : Int → Int) : Prop := ∀ x y, S x → S y → g x = g y → x = y
theorem beq_ren {S : Int → Prop} {g : Int → Int} (hg : InjOn S g) {x y : Int} (hx : S x) (hy : S y) : (g x == g y) = (x == y) := by
  rw [Bool.eq_iff_iff]
  simp only [beq_iff_eq]
  exact ⟨hg x y hx hy, fun h => by rw [h]⟩
theorem has_ren {S : Int → Prop} {g : Int → Int} (hg : InjOn S g) {xs : List Int} {x : Int} (hxs : ∀ y ∈ xs, S y) (hx : S x) : hasI (xs.map g) (g x) = hasI xs x := by
  unfold hasI
  rw [Bool.eq_iff_iff, List.contains_iff_mem, List.contains_iff_mem, List.mem_map]
  constructor
  · rintro ⟨y, hy, e⟩
    rw [← hg y x (hxs y hy) hx e]
    exact hy
  · intro h
    exact ⟨x, h, rfl⟩
theorem span_ren {g : Int → Int} {d d' : OpD} (h : Ren g d d') : spanS d' = spanS d := by
  unfold spanS
  rw [h.load, h.store, h.size, h.addr]
theorem ret_ren {g : Int → Int} {d d' : OpD} (h : Ren g d d') : retS d' = retS d := by
  unfold retS
  rw [span_ren h, h.load, h.size, h.from_, List.length_map]
theorem upd_ren {g : Int → Int} {d d' : OpD} (h : Ren g d d') (s : Int × Int) (ch : List Int) : updS s ch d' = updS s ch d := by
  unfold updS
  rw [h.store, span_ren h]
theorem bare_ren {g : Int → Int} (s : Int × Int) (P : List (OpD × OpD)) (h : ∀ p ∈ P, Ren g p.1 p.2) : bareS s (P.map Prod.snd) = bareS s (P.map Prod.fst) := by
  have e : ∀ (P : List (OpD × OpD)) (ch : List Int), (∀ p ∈ P, Ren g p.1 p.2) → (P.map Prod.snd).foldl (updS s) ch = (P.map Prod.fst).foldl (updS s) ch := by
    intro P
    induction P with
    | nil => intro ch _; rfl
    | cons p P ih =>
      intro ch hP
      simp only [List.map_cons, List.foldl_cons]
      rw [upd_ren (hP p (by simp))]
      exact ih _ (fun q hq => hP q (by simp [hq]))
  unfold bareS bareTo chgS
  rw [e P _ h]
theorem any_eq {α β : Type} {f : α → Bool} {g : β → Bool} {P : List (α × β)} (h : ∀ p ∈ P, g p.2 = f p.1) : (P.map Prod.snd).any g = (P.map Prod.fst).any f := by
  induction P with
  | nil => rfl
  | cons p P ih =>
    simp only [List.map_cons, List.any_cons]
    rw [h p (by simp), ih (fun q hq => h q (by simp [hq]))]
theorem any_same {α : Type} {f g : α → Bool} {l : List α} (h : ∀ x ∈ l, g x = f x) : l.any g = l.any f := by
  induction l with
  | nil => rfl
  | cons x l ih =>
    simp only [List.any_cons]
    rw [h x (by simp), ih (fun q hq => h q (by simp [hq]))]
theorem bare_in {s : Int × Int} {l : List OpD} {x : Int} (h : x ∈ bareS s l) : s.1 ≤ x ∧ x ≤ s.2 := by
  unfold bareS bareTo lenS at h
  split at h
  · simp at h
  · simp only [List.mem_map, List.mem_filter, List.mem_range] at h
    obtain ⟨m, ⟨h1, -⟩, h2⟩ := h
    omega
theorem getD_ren {g : Int → Int} {xs : List Int} {i : Nat} (h : i < xs.length) : (xs.map g).getD i 0 = g (xs.getD i 0) := by
  rw [List.getD_eq_getElem?_getD, List.getD_eq_getElem?_getD, List.getElem?_map, List.getElem?_eq_getElem h]
  rfl
theorem getD_mem' {xs : List Int} {i : Nat} (h : i < xs.length) : xs.getD i 0 ∈ xs := by
  rw [List.getD_eq_getElem?_getD, List.getElem?_eq_getElem h]
  exact List.getElem_mem h
theorem diff_ren {S : Int → Prop} {g : Int → Int} (hg : InjOn S g) {a b a' b' : OpD} (ha : Ren g a a') (hb : Ren g b b') (ia : a.In S) (ib : b.In S) (oa : a.Ok) (ob : b.Ok) {x : Int}
    (h1 : (retS a).1 ≤ x) (h2 : x ≤ (retS a).2) (h3 : (retS b).1 ≤ x) (h4 : x ≤ (retS b).2) : diffB a' b' x = diffB a b x := by
  have e1 : emptyS (retS a) = false := by unfold emptyS; simp; omega
  have e2 : emptyS (retS b) = false := by unfold emptyS; simp; omega
  have r1 := (ret_facts oa e1).2.1
  have r2 := (ret_facts ob e2).2.1
  have l1 : (x - (retS a).1).toNat < a.from_.length := by omega
  have l2 : (x - (retS b).1).toNat < b.from_.length := by omega
  unfold diffB
  rw [ret_ren ha, ret_ren hb, ha.from_, hb.from_, getD_ren l1, getD_ren l2]
  unfold bne
  rw [beq_ren hg (ia.from_ _ (getD_mem' l1)) (ib.from_ _ (getD_mem' l2))]
theorem apart_ren {S : Int → Prop} {g : Int → Int} (hg : InjOn S g) {a b a' b' : OpD} (ha : Ren g a a') (hb : Ren g b b') (ia : a.In S) (ib : b.In S) (oa : a.Ok) (ob : b.Ok)
    (P : List (OpD × OpD)) (h : ∀ p ∈ P, Ren g p.1 p.2) : apartS a' b' (P.map Prod.snd) = apartS a b (P.map Prod.fst) := by
  unfold apartS
  rw [ret_ren ha, ret_ren hb, bare_ren _ P h]
  refine any_same fun x hx => ?_
  have := bare_in hx
  unfold comS at this
  simp only at this
  exact diff_ren hg ha hb ia ib oa ob (by omega) (by omega) (by omega) (by omega)
theorem ids_ren {g : Int → Int} {d d' : OpD} (h : Ren g d d') : idsS d' = (idsS d).map g := by
  unfold idsS
  rw [ret_ren h, h.from_]
  split
  · rfl
  · rw [List.map_take]
theorem ids_S {S : Int → Prop} {d : OpD} (h : d.In S) : ∀ x ∈ idsS d, S x := by
  intro x hx
  unfold idsS at hx
  split at hx
  · simp at hx
  · exact h.from_ x (List.mem_of_mem_take hx)
theorem does_ren {g : Int → Int} {d d' : OpD} (h : Ren g d d') : doesS d' = doesS d := by
  unfold doesS
  rw [h.load, h.store]
theorem moves_ren {g : Int → Int} {d d' : OpD} (h : Ren g d d') : movesS d' = movesS d := by
  unfold movesS
  rw [h.load, h.store, h.fence]
theorem hang_ren {S : Int → Prop} {g : Int → Int} (hg : InjOn S g) {a a' : OpD} (ha : Ren g a a') (ia : a.In S) (P : List (OpD × OpD)) (h : ∀ p ∈ P, Ren g p.1 p.2) (hi : ∀ p ∈ P, p.1.In S) :
    hangS a' (P.map Prod.snd) = (hangS a (P.map Prod.fst)).map g := by
  induction P with
  | nil => rfl
  | cons p P ih =>
    have hp := h p (by simp)
    have ip := hi p (by simp)
    have e : hangB a' p.2 = hangB a p.1 := by
      unfold hangB
      rw [hp.store, hp.addrs, hp.datas, ha.id, has_ren hg ip.addrs ia.id, has_ren hg ip.datas ia.id]
    have ih' := ih (fun q hq => h q (by simp [hq])) (fun q hq => hi q (by simp [hq]))
    unfold hangS at *
    simp only [List.map_cons, List.filter_cons, e]
    split
    · simp only [List.map_cons, ih', hp.id]
    · exact ih'
theorem hang_in {S : Int → Prop} {a : OpD} {l : List OpD} (h : ∀ m ∈ l, m.In S) : ∀ x ∈ hangS a l, S x := by
  intro x hx
  unfold hangS at hx
  simp only [List.mem_map, List.mem_filter] at hx
  obtain ⟨m, ⟨hm, -⟩, rfl⟩ := hx
  exact (h m hm).id
theorem ruleB_ren {S : Int → Prop} {g : Int → Int} (hg : InjOn S g) (s1 : S (-1)) (g1 : g (-1) = -1) {a b a' b' : OpD} (ha : Ren g a a') (hb : Ren g b b') (ia : a.In S) (ib : b.In S) (oa : a.Ok) (ob : b.Ok)
    (P : List (OpD × OpD)) (h : ∀ p ∈ P, Ren g p.1 p.2) (hi : ∀ p ∈ P, p.1.In S) (n : Nat) : ruleB a' b' (P.map Prod.snd) n = ruleB a b (P.map Prod.fst) n := by
  unfold ruleB
  split
  · rw [hb.store, span_ren ha, span_ren hb]
  · exact apart_ren hg ha hb ia ib oa ob P h
  · rw [ha.load, ha.store, hb.load, ids_ren hb, ha.id, has_ren hg (ids_S ib) ia.id, ha.pair]
    have := beq_ren hg ia.pair s1
    rw [g1] at this
    unfold bne
    rw [this]
  · refine any_eq fun p hp => ?_
    unfold fenceB
    rw [(h p hp).fence, (h p hp).pred, (h p hp).succ, does_ren ha, does_ren hb]
  · exact ha.aq
  · exact hb.rl
  · rw [ha.aq, ha.rl, hb.aq, hb.rl]
  · rw [hb.pair, ha.id, beq_ren hg ib.pair ia.id]
  · rw [hb.addrs, ha.id, has_ren hg ib.addrs ia.id]
  · rw [hb.datas, ha.id, has_ren hg ib.datas ia.id]
  · rw [hb.store, hb.ctrls, ha.id, has_ren hg ib.ctrls ia.id]
  · rw [hb.load]
    unfold passedB
    rw [ids_ren hb, hang_ren hg ha ia P h hi, List.any_map]
    congr 1
    refine any_same fun x hx => ?_
    exact has_ren hg (hang_in (fun m hm => by
      rw [List.mem_map] at hm
      obtain ⟨p, hp, rfl⟩ := hm
      exact hi p hp)) (ids_S ib x hx)
  · rw [hb.store]
    congr 1
    refine any_eq fun p hp => ?_
    unfold placedB
    rw [(h p hp).fence, (h p hp).addrs, ha.id, has_ren hg (hi p hp).addrs ia.id]
  · rfl
theorem rulesTo_eq {a b a' b' : OpD} {l l' : List OpD} (h : ∀ n, ruleB a' b' l' n = ruleB a b l n) (k : Nat) : rulesTo a' b' l' k = rulesTo a b l k := by
  unfold rulesTo
  simp only [h]
theorem rules_ren {S : Int → Prop} {g : Int → Int} (hg : InjOn S g) (s1 : S (-1)) (g1 : g (-1) = -1) (P : List (OpD × OpD)) (h : ∀ p ∈ P, Ren g p.1 p.2) (hi : ∀ p ∈ P, p.1.In S) (ho : ∀ p ∈ P, p.1.Ok) (i j : Int) :
    rulesS (P.map Prod.snd) i j = rulesS (P.map Prod.fst) i j := by
  unfold rulesS
  simp only [List.length_map]
  split
  · rename_i hij
    obtain ⟨p, hp⟩ : ∃ p, P[i.toNat]? = some p := ⟨_, List.getElem?_eq_getElem (by omega)⟩
    obtain ⟨q, hq⟩ : ∃ q, P[j.toNat]? = some q := ⟨_, List.getElem?_eq_getElem (by omega)⟩
    have mp := List.mem_of_getElem? hp
    have mq := List.mem_of_getElem? hq
    simp only [List.getElem?_map, hp, hq, Option.map_some]
    rw [moves_ren (h p mp), moves_ren (h q mq)]
    have em : ∀ f : OpD × OpD → OpD, midS (P.map f) i.toNat j.toNat = ((P.take j.toNat).drop (i.toNat + 1)).map f := by
      intro f
      unfold midS
      rw [List.map_drop, List.map_take]
    have sub : ∀ r ∈ (P.take j.toNat).drop (i.toNat + 1), r ∈ P := fun r hr => List.mem_of_mem_take (List.mem_of_mem_drop hr)
    rw [em, em, rulesTo_eq (fun n => ruleB_ren hg s1 g1 (h p mp) (h q mq) (hi p mp) (hi q mq) (ho p mp) (ho q mq) _ (fun r hr => h r (sub r hr)) (fun r hr => hi r (sub r hr)) n)]
  · rfl
/-- What the statement makes of an ID. -/
def renI (k n : Int) : Int := if n < 0 ∨ 1000 < n then n else 3 * n + 2000 * k
theorem renI_inj {k : Int} (hk : 1 ≤ k) : InjOn (fun x => x ≤ 1000) (renI k) := by
  intro x y hx hy h
  unfold renI at h
  split at h <;> split at h <;> omega
theorem renI_one (k : Int) : renI k (-1) = -1 := by
  unfold renI
  rw [if_pos (by omega)]
end Go.Proofs.Yticifolljhplmaa
