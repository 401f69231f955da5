/-
  Proved here: of the reference: whether two lists of bodies are the same but for places. Conditions: the memory holds them.
-/
import Derived.Test.YtojogolmcclpoaaDoorSbm
import Derived.Test.YtojogolmcclpoaaDoorSaj
import Derived.Test.YtojogolmcclpoaaDoorSbp
namespace Go.Proofs.YtojogolmcclpoaaDoor
open Go.RowKit
set_option linter.unusedVariables false
set_option linter.unusedSimpArgs false
set_option maxRecDepth 100000
set_option maxHeartbeats 8000000
def smS (s t : St) : Bool := ((s.kind == t.kind) && ((s.name == t.name) && (s.actor == t.actor))) && smEs s.args t.args
def smSs : List St → List St → Bool
  | [], [] => true
  | x :: l, y :: m => smS x y && smSs l m
  | _, _ => false
mutual
def smB : Bd → Bd → Bool
  | .mk sv ss k a ac av es pv ps mv ms lt af, c => (((k == c.kind) && ((ac == c.actor) && ((lt == c.late) && (af == c.after)))) && (smEs es c.args && smBs ps c.parts)) && (smSs ss c.stmts && smAs ms c.arms)
def smBs : List Bd → List Bd → Bool
  | [], [] => true
  | x :: l, y :: m => smB x y && smBs l m
  | _, _ => false
def smA : Am → Am → Bool
  | .mk p gv g b, c => smE p c.pat && (smEs g c.guard && smB b c.body)
def smAs : List Am → List Am → Bool
  | [], [] => true
  | x :: l, y :: m => smA x y && smAs l m
  | _, _ => false
end
theorem smB_eq (b c : Bd) : smB b c = ((((b.kind == c.kind) && ((b.actor == c.actor) && ((b.late == c.late) && (b.after == c.after)))) && (smEs b.args c.args && smBs b.parts c.parts)) && (smSs b.stmts c.stmts && smAs b.arms c.arms)) := by
  cases b with
  | mk sv ss k a ac av es pv ps mv ms lt af => rw [smB]; rfl
theorem smA_eq (b c : Am) : smA b c = (smE b.pat c.pat && (smEs b.guard c.guard && smB b.body c.body)) := by
  cases b with
  | mk p gv g b => rw [smA]; rfl
theorem smSs_len : ∀ l m : List St, smSs l m = true → l.length = m.length
  | [], [], _ => rfl
  | [], _ :: _, h => by rw [smSs] at h <;> simp_all
  | _ :: _, [], h => by rw [smSs] at h <;> simp_all
  | x :: l, y :: m, h => by
    rw [smSs, Bool.and_eq_true] at h
    rw [List.length_cons, List.length_cons, smSs_len l m h.2]
theorem smSs_step : ∀ (l m : List St) (i : Nat) (x y : St), l[i]? = some x → m[i]? = some y → smSs (l.take (i + 1)) (m.take (i + 1)) = (smSs (l.take i) (m.take i) && smS x y)
  | [], _, i, _, _, h, _ => by simp at h
  | _ :: _, [], i, _, _, _, h => by simp at h
  | a :: l, b :: m, 0, x, y, h, h' => by
    simp at h h'
    subst h h'
    simp [smSs]
  | a :: l, b :: m, i + 1, x, y, h, h' => by
    simp only [List.getElem?_cons_succ] at h h'
    rw [List.take_succ_cons, List.take_succ_cons, List.take_succ_cons, List.take_succ_cons, smSs, smSs, smSs_step l m i x y h h', Bool.and_assoc]
theorem smSs_bad {l m : List St} {i : Nat} {x y : St} (h : l[i]? = some x) (h' : m[i]? = some y) (hb : smS x y = false) : smSs l m = false := by
  induction i generalizing l m with
  | zero =>
    cases l with
    | nil => simp at h
    | cons a l =>
      cases m with
      | nil => simp at h'
      | cons b m =>
        simp at h h'
        subst h h'
        rw [smSs, hb, Bool.false_and]
  | succ i ih =>
    cases l with
    | nil => simp at h
    | cons a l =>
      cases m with
      | nil => simp at h'
      | cons b m =>
        simp only [List.getElem?_cons_succ] at h h'
        rw [smSs, ih h h', Bool.and_false]
theorem smSs_ne {l m : List St} (h : l.length ≠ m.length) : smSs l m = false := by
  rw [← Bool.not_eq_true]
  exact fun e => h (smSs_len l m e)
theorem smBs_len : ∀ l m : List Bd, smBs l m = true → l.length = m.length
  | [], [], _ => rfl
  | [], _ :: _, h => by rw [smBs] at h <;> simp_all
  | _ :: _, [], h => by rw [smBs] at h <;> simp_all
  | x :: l, y :: m, h => by
    rw [smBs, Bool.and_eq_true] at h
    rw [List.length_cons, List.length_cons, smBs_len l m h.2]
theorem smBs_step : ∀ (l m : List Bd) (i : Nat) (x y : Bd), l[i]? = some x → m[i]? = some y → smBs (l.take (i + 1)) (m.take (i + 1)) = (smBs (l.take i) (m.take i) && smB x y)
  | [], _, i, _, _, h, _ => by simp at h
  | _ :: _, [], i, _, _, _, h => by simp at h
  | a :: l, b :: m, 0, x, y, h, h' => by
    simp at h h'
    subst h h'
    simp [smBs]
  | a :: l, b :: m, i + 1, x, y, h, h' => by
    simp only [List.getElem?_cons_succ] at h h'
    rw [List.take_succ_cons, List.take_succ_cons, List.take_succ_cons, List.take_succ_cons, smBs, smBs, smBs_step l m i x y h h', Bool.and_assoc]
theorem smBs_bad {l m : List Bd} {i : Nat} {x y : Bd} (h : l[i]? = some x) (h' : m[i]? = some y) (hb : smB x y = false) : smBs l m = false := by
  induction i generalizing l m with
  | zero =>
    cases l with
    | nil => simp at h
    | cons a l =>
      cases m with
      | nil => simp at h'
      | cons b m =>
        simp at h h'
        subst h h'
        rw [smBs, hb, Bool.false_and]
  | succ i ih =>
    cases l with
    | nil => simp at h
    | cons a l =>
      cases m with
      | nil => simp at h'
      | cons b m =>
        simp only [List.getElem?_cons_succ] at h h'
        rw [smBs, ih h h', Bool.and_false]
theorem smBs_ne {l m : List Bd} (h : l.length ≠ m.length) : smBs l m = false := by
  rw [← Bool.not_eq_true]
  exact fun e => h (smBs_len l m e)
theorem smAs_len : ∀ l m : List Am, smAs l m = true → l.length = m.length
  | [], [], _ => rfl
  | [], _ :: _, h => by rw [smAs] at h <;> simp_all
  | _ :: _, [], h => by rw [smAs] at h <;> simp_all
  | x :: l, y :: m, h => by
    rw [smAs, Bool.and_eq_true] at h
    rw [List.length_cons, List.length_cons, smAs_len l m h.2]
theorem smAs_step : ∀ (l m : List Am) (i : Nat) (x y : Am), l[i]? = some x → m[i]? = some y → smAs (l.take (i + 1)) (m.take (i + 1)) = (smAs (l.take i) (m.take i) && smA x y)
  | [], _, i, _, _, h, _ => by simp at h
  | _ :: _, [], i, _, _, _, h => by simp at h
  | a :: l, b :: m, 0, x, y, h, h' => by
    simp at h h'
    subst h h'
    simp [smAs]
  | a :: l, b :: m, i + 1, x, y, h, h' => by
    simp only [List.getElem?_cons_succ] at h h'
    rw [List.take_succ_cons, List.take_succ_cons, List.take_succ_cons, List.take_succ_cons, smAs, smAs, smAs_step l m i x y h h', Bool.and_assoc]
theorem smAs_bad {l m : List Am} {i : Nat} {x y : Am} (h : l[i]? = some x) (h' : m[i]? = some y) (hb : smA x y = false) : smAs l m = false := by
  induction i generalizing l m with
  | zero =>
    cases l with
    | nil => simp at h
    | cons a l =>
      cases m with
      | nil => simp at h'
      | cons b m =>
        simp at h h'
        subst h h'
        rw [smAs, hb, Bool.false_and]
  | succ i ih =>
    cases l with
    | nil => simp at h
    | cons a l =>
      cases m with
      | nil => simp at h'
      | cons b m =>
        simp only [List.getElem?_cons_succ] at h h'
        rw [smAs, ih h h', Bool.and_false]
theorem smAs_ne {l m : List Am} (h : l.length ≠ m.length) : smAs l m = false := by
  rw [← Bool.not_eq_true]
  exact fun e => h (smAs_len l m e)
/-! The same trees without their places and their memory. -/
theorem smE_strip : ∀ e f : Ex, sEx e = sEx f ↔ smE e f = true := by
  have key : ∀ l : List Ex, (∀ x ∈ l, ∀ f, sEx x = sEx f ↔ smE x f = true) → ∀ m, l.map sEx = m.map sEx ↔ smEs l m = true := by
    intro l
    induction l with
    | nil => intro _ m; cases m <;> simp [smEs]
    | cons x l ih =>
      intro h m
      cases m with
      | nil => simp [smEs]
      | cons y m =>
        rw [List.map_cons, List.map_cons, List.cons.injEq, smEs, Bool.and_eq_true, h x List.mem_cons_self, ih (fun a ha => h a (List.mem_cons_of_mem _ ha))]
  intro e
  induction e using Ex.ind
  rename_i e ih
  intro f
  rw [sEx_eq, sEx_eq, smE_eq, Ex.mk.injEq]
  simp only [Bool.and_eq_true, beq_iff_eq, true_and, and_assoc]
  rw [key e.args (fun x hx f => ih x hx f)]
theorem smEs_strip (l m : List Ex) : l.map sEx = m.map sEx ↔ smEs l m = true := by
  induction l generalizing m with
  | nil => cases m <;> simp [smEs]
  | cons x l ih =>
    cases m with
    | nil => simp [smEs]
    | cons y m => rw [List.map_cons, List.map_cons, List.cons.injEq, smEs, Bool.and_eq_true, smE_strip, ih]
theorem smS_strip (s t : St) : sSt s = sSt t ↔ smS s t = true := by
  unfold sSt smS
  rw [St.mk.injEq]
  simp only [Bool.and_eq_true, beq_iff_eq, true_and, and_assoc, smEs_strip]
theorem smSs_strip (l m : List St) : l.map sSt = m.map sSt ↔ smSs l m = true := by
  induction l generalizing m with
  | nil => cases m <;> simp [smSs]
  | cons x l ih =>
    cases m with
    | nil => simp [smSs]
    | cons y m => rw [List.map_cons, List.map_cons, List.cons.injEq, smSs, Bool.and_eq_true, smS_strip, ih]
theorem smB_strip : ∀ b c : Bd, sBd b = sBd c ↔ smB b c = true := by
  have key : ∀ l : List Bd, (∀ x ∈ l, ∀ f, sBd x = sBd f ↔ smB x f = true) → ∀ m, l.map sBd = m.map sBd ↔ smBs l m = true := by
    intro l
    induction l with
    | nil => intro _ m; cases m <;> simp [smBs]
    | cons x l ih =>
      intro h m
      cases m with
      | nil => simp [smBs]
      | cons y m => rw [List.map_cons, List.map_cons, List.cons.injEq, smBs, Bool.and_eq_true, h x List.mem_cons_self, ih (fun a ha => h a (List.mem_cons_of_mem _ ha))]
  have keyA : ∀ l : List Am, (∀ x ∈ l, ∀ f, sBd x.body = sBd f ↔ smB x.body f = true) → ∀ m, l.map sAm = m.map sAm ↔ smAs l m = true := by
    intro l
    induction l with
    | nil => intro _ m; cases m <;> simp [smAs]
    | cons x l ih =>
      intro h m
      cases m with
      | nil => simp [smAs]
      | cons y m =>
        rw [List.map_cons, List.map_cons, List.cons.injEq, smAs, Bool.and_eq_true, ih (fun a ha => h a (List.mem_cons_of_mem _ ha)), sAm_eq, sAm_eq, smA_eq, Am.mk.injEq]
        simp only [Bool.and_eq_true, true_and, smE_strip, smEs_strip, h x List.mem_cons_self y.body]
  intro b
  induction b using Bd.ind
  rename_i b ihp iha
  intro c
  rw [sBd_eq, sBd_eq, smB_eq, Bd.mk.injEq]
  rw [key b.parts (fun x hx f => ihp x hx f), keyA b.arms (fun x hx f => iha x hx f), smSs_strip, smEs_strip]
  simp only [Bool.and_eq_true, beq_iff_eq, true_and]
  constructor
  · rintro ⟨a1, a2, a3, a4, a5, a6, a7, a8⟩
    exact ⟨⟨⟨a2, a3, a7, a8⟩, a4, a5⟩, a1, a6⟩
  · rintro ⟨⟨⟨a2, a3, a7, a8⟩, a4, a5⟩, a1, a6⟩
    exact ⟨a1, a2, a3, a4, a5, a6, a7, a8⟩
end Go.Proofs.YtojogolmcclpoaaDoor
