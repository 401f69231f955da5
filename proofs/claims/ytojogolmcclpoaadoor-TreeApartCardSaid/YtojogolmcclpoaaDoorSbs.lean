/-
  Proved here: of the reference: any two lists of bodies. Conditions: the memory holds them. ¦ programs that are the same but for places have one text, and only they, if they may be. Conditions: none.
-/
import Derived.Test.YtojogolmcclpoaaDoorSbr
section
namespace Go.Proofs.YtojogolmcclpoaaDoor
theorem smR_key : ∀ x : Bd, SmR x.parts ∧ ∀ a ∈ x.arms, SmR [a.body] := by
  intro x
  induction x using Bd.ind
  rename_i x ihp iha
  exact ⟨rsmB_step x.parts (fun p hp => (ihp p hp).1) (fun p hp => (ihp p hp).2), fun a ha => rsmB_step [a.body] (fun p hp => by rw [List.mem_singleton] at hp; subst hp; exact (iha a ha).1) (fun p hp => by rw [List.mem_singleton] at hp; subst hp; exact (iha a ha).2)⟩
theorem smR_all (l : List Bd) : SmR l := rsmB_step l (fun x _ => (smR_key x).1) (fun x _ => (smR_key x).2)
end Go.Proofs.YtojogolmcclpoaaDoor
end
section
namespace Go.Proofs.YtojogolmcclpoaaDoor
set_option linter.unusedVariables false
set_option linter.unusedSimpArgs false
def smD (d e : Df) : Bool := (d.name == e.name) && (smB d.body e.body && decide (d.params = e.params))
def smDs : List Df → List Df → Bool
  | [], [] => true
  | x :: l, y :: m => smD x y && smDs l m
  | _, _ => false
def smP (p q : Pg) : Bool := ((p.main == q.main) && smEs p.args q.args) && smDs p.defs q.defs
theorem smDs_len : ∀ l m : List Df, smDs l m = true → l.length = m.length
  | [], [], _ => rfl
  | [], _ :: _, h => by rw [smDs] at h <;> simp_all
  | _ :: _, [], h => by rw [smDs] at h <;> simp_all
  | x :: l, y :: m, h => by
    rw [smDs, Bool.and_eq_true] at h
    rw [List.length_cons, List.length_cons, smDs_len l m h.2]
theorem smDs_ne {l m : List Df} (h : l.length ≠ m.length) : smDs l m = false := by
  rw [← Bool.not_eq_true]
  exact fun e => h (smDs_len l m e)
theorem smDs_step : ∀ (l m : List Df) (i : Nat) (x y : Df), l[i]? = some x → m[i]? = some y → smDs (l.take (i + 1)) (m.take (i + 1)) = (smDs (l.take i) (m.take i) && smD x y)
  | [], _, i, _, _, h, _ => by simp at h
  | _ :: _, [], i, _, _, _, h => by simp at h
  | a :: l, b :: m, 0, x, y, h, h' => by
    simp at h h'
    subst h h'
    simp [smDs]
  | a :: l, b :: m, i + 1, x, y, h, h' => by
    simp only [List.getElem?_cons_succ] at h h'
    rw [List.take_succ_cons, List.take_succ_cons, List.take_succ_cons, List.take_succ_cons, smDs, smDs, smDs_step l m i x y h h', Bool.and_assoc]
theorem smDs_bad {l m : List Df} {i : Nat} {x y : Df} (h : l[i]? = some x) (h' : m[i]? = some y) (hb : smD x y = false) : smDs l m = false := by
  induction i generalizing l m with
  | zero =>
    cases l with
    | nil => simp at h
    | cons a l =>
      cases m with
      | nil => simp at h'
      | cons b m =>
        simp at h h'
        subst h h'
        rw [smDs, hb, Bool.false_and]
  | succ i ih =>
    cases l with
    | nil => simp at h
    | cons a l =>
      cases m with
      | nil => simp at h'
      | cons b m =>
        simp only [List.getElem?_cons_succ] at h h'
        rw [smDs, ih h h', Bool.and_false]
theorem smD_strip (d e : Df) : sDf d = sDf e ↔ smD d e = true := by
  unfold sDf smD
  rw [Df.mk.injEq]
  simp only [Bool.and_eq_true, beq_iff_eq, decide_eq_true_eq, true_and, smB_strip]
  constructor
  · rintro ⟨a, b, c⟩; exact ⟨a, c, b⟩
  · rintro ⟨a, c, b⟩; exact ⟨a, b, c⟩
theorem smDs_strip (l m : List Df) : l.map sDf = m.map sDf ↔ smDs l m = true := by
  induction l generalizing m with
  | nil => cases m <;> simp [smDs]
  | cons x l ih =>
    cases m with
    | nil => simp [smDs]
    | cons y m => rw [List.map_cons, List.map_cons, List.cons.injEq, smDs, Bool.and_eq_true, smD_strip, ih]
theorem smP_strip (p q : Pg) : sPg p = sPg q ↔ smP p q = true := by
  unfold sPg smP
  rw [Pg.mk.injEq]
  simp only [Bool.and_eq_true, beq_iff_eq, true_and, smDs_strip, smEs_strip]
  constructor
  · rintro ⟨a, b, c⟩; exact ⟨⟨b, c⟩, a⟩
  · rintro ⟨⟨b, c⟩, a⟩; exact ⟨a, b, c⟩
/-! A text hangs on nothing else. -/
theorem mapc {α β : Type} (f : α → α) (g : α → β) (l : List α) (h : ∀ x ∈ l, g (f x) = g x) : (l.map f).map g = l.map g := by
  rw [List.map_map]
  exact List.map_congr_left h
theorem txE_c {k a a' n : Int} {s : Bs} {v v' : Value} {l l' : List Ex} (h : txEs l = txEs l') : txE (.mk k a n s v l) = txE (.mk k a' n s v' l') := by simp only [txE, h]
theorem txT_c {k a a' n : Int} {s : Bs} {v v' : Value} {l l' : List Ex} (h : txTs l = txTs l') : txT (.mk k a n s v l) = txT (.mk k a' n s v' l') := by simp only [txT, h]
theorem txE_s : ∀ e : Ex, txE (sEx e) = txE e := by
  intro e
  induction e using Ex.ind
  rename_i e ih
  have h : txEs (e.args.map sEx) = txEs e.args := by rw [txEs_map, txEs_map, mapc sEx txE e.args ih]
  rw [sEx_eq]
  cases e with
  | mk k a n s v l => exact txE_c h
theorem txT_s : ∀ e : Ex, txT (sEx e) = txT e := by
  intro e
  induction e using Ex.ind
  rename_i e ih
  have h : txTs (e.args.map sEx) = txTs e.args := by rw [txTs_map, txTs_map, mapc sEx txT e.args ih]
  rw [sEx_eq]
  cases e with
  | mk k a n s v l => exact txT_c h
theorem txEs_s (l : List Ex) : txEs (l.map sEx) = txEs l := by rw [txEs_map, txEs_map, mapc sEx txE l fun x _ => txE_s x]
theorem acT_s (n : Bs) (l : List Ex) : acT n (l.map sEx) = acT n l := by unfold acT; rw [txEs_s]
theorem txS_s (s : St) : txS (sSt s) = txS s := by
  unfold txS sSt
  simp only [txEs_s, acT_s]
theorem txSs_s (l : List St) : txSs (l.map sSt) = txSs l := by rw [txSs_map, txSs_map, mapc sSt (fun s => txS s ++ [32]) l fun x _ => by rw [txS_s]]
theorem gdT_s (l : List Ex) : gdT (l.map sEx) = gdT l := by rw [gdT_map, gdT_map, mapc sEx (fun g => [32, 119, 104, 101, 110, 32] ++ txE g) l fun x _ => by rw [txE_s]]
theorem txB_c {sv sv' av av' pv pv' mv mv' : Value} {k a a' af : Int} {ac : Bs} {lt : Bool} {ss ss' : List St} {es es' : List Ex} {ps ps' : List Bd} {ms ms' : List Am} (h1 : txSs ss = txSs ss') (h2 : txEs es = txEs es') (h3 : txBs ps = txBs ps') (h4 : txAs ms = txAs ms') :
    txB (.mk sv ss k a ac av es pv ps mv ms lt af) = txB (.mk sv' ss' k a' ac av' es' pv' ps' mv' ms' lt af) := by simp only [txB, acT, h1, h2, h3, h4]
theorem txA_c {p p' : Ex} {v v' : Value} {g g' : List Ex} {b b' : Bd} (h1 : txT p = txT p') (h2 : gdT g = gdT g') (h3 : txB b = txB b') : txA (.mk p v g b) = txA (.mk p' v' g' b') := by simp only [txA, h1, h2, h3]
theorem txB_s : ∀ b : Bd, txB (sBd b) = txB b := by
  intro b
  induction b using Bd.ind
  rename_i b ihp iha
  have h1 : txBs (b.parts.map sBd) = txBs b.parts := by rw [txBs_map, txBs_map, mapc sBd txB b.parts ihp]
  have h2 : txAs (b.arms.map sAm) = txAs b.arms := by
    rw [txAs_map, txAs_map, mapc sAm (fun m => [32] ++ txA m) b.arms fun x hx => ?_]
    have h := iha x hx
    rw [sAm_eq]
    cases x with
    | mk p v g c => exact congrArg ([32] ++ ·) (txA_c (txT_s p) (gdT_s g) h)
  rw [sBd_eq]
  cases b with
  | mk sv ss k a ac av es pv ps mv ms lt af => exact txB_c (txSs_s ss) (txEs_s es) h1 h2
theorem txD_s (d : Df) : txD (sDf d) = txD d := by
  unfold txD sDf
  simp only [txB_s]
theorem txDs_s (l : List Df) : txDs (l.map sDf) = txDs l := by rw [txDs_map, txDs_map, mapc sDf txD l fun x _ => txD_s x]
theorem txP_s (p : Pg) : txP (sPg p) = txP p := by
  unfold txP sPg
  simp only [txDs_s, acT_s]
/-- Programs that may be have one text just if they are the same but for places. -/
theorem txP_same (p q : Pg) (hp : gP p = true) (hq : gP q = true) : decide (txP p = txP q) = smP p q := by
  cases h : smP p q with
  | true =>
    rw [← smP_strip] at h
    exact decide_eq_true (by rw [← txP_s p, ← txP_s q, h])
  | false =>
    refine decide_eq_false fun e => ?_
    rw [(smP_strip p q).1 (txP_tells p q hp hq e)] at h
    cases h
end Go.Proofs.YtojogolmcclpoaaDoor
end
