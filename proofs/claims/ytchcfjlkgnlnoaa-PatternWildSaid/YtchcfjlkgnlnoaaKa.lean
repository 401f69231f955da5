/-
  Proved here: the words of a source, as plain functions of its bytes. Conditions: none.
-/
import Derived.Lib.Strings
namespace Go.Proofs.Ytchcfjlkgnlnoaa
set_option linter.unusedVariables false
set_option linter.unusedSimpArgs false
abbrev Bs := List UInt8
def bI (c : UInt8) : Int := (c.toNat : Int)
theorem bI_room (c : UInt8) : 0 ≤ bI c ∧ bI c < 256 := by
  have := c.toNat_lt
  unfold bI
  omega
def digI (x : Int) : Bool := decide (48 ≤ x) && decide (x ≤ 57)
def ltrI (x : Int) : Bool := ((decide (97 ≤ x) && decide (x ≤ 122)) || (decide (65 ≤ x) && decide (x ≤ 90))) || (x == 95)
def namI (x : Int) (f : Bool) : Bool := if digI x = true then !f else ltrI x
/-- How many bytes stand between words. -/
def btw : Bs → Bool → Nat
  | [], _ => 0
  | c :: r, rm => if bI c = 10 then btw r false + 1 else if bI c = 35 then btw r true + 1 else if rm = true ∨ bI c = 32 ∨ bI c = 9 ∨ bI c = 13 then btw r rm + 1 else 0
/-- How many bytes are a name's. -/
def nmN : Bs → Bool → Nat
  | [], _ => 0
  | c :: r, f => if namI (bI c) f = true then nmN r false + 1 else 0
def dgN : Bs → Nat
  | [] => 0
  | c :: r => if digI (bI c) = true then dgN r + 1 else 0
def stepN (n d : Int) : Int := if n < 0 ∨ 2305843009213693951 < 10 * n + d then -1 else 10 * n + d
def numV : Bs → Int → Int
  | [], n => n
  | c :: r, n => numV r (stepN n (bI c - 48))
def allN : Bs → Bool → Bool
  | [], _ => true
  | c :: r, f => namI (bI c) f && allN r false
def kwL : List Bs := [[97, 99, 116, 111, 114], [109, 97, 105, 110], [108, 101, 116], [115, 112, 97, 119, 110], [115, 101, 110, 100], [111, 117, 116], [98, 101, 99, 111, 109, 101], [115, 116, 111, 112], [105, 102], [101, 108, 115, 101], [114, 101, 99, 101, 105, 118, 101], [119, 104, 101, 110], [97, 102, 116, 101, 114], [115, 101, 108, 102], [95]]
def kwS (t : Bs) : Bool := kwL.contains t
def nameS (t : Bs) : Bool := decide (1 ≤ t.length) && decide (t.length ≤ 32) && !kwS t && allN t true
def sigI (x : Int) : Bool := x == 40 || x == 41 || x == 123 || x == 125 || x == 44 || x == 59 || x == 43 || x == 45 || x == 42 || x == 60
abbrev Wd := Int × Bs × Int × Nat
/-- The word that stands first: kind, text, number, length. -/
def waS : Bs → Wd
  | [] => (0, [], 0, 0)
  | c :: r =>
    if bI c = 61 then (if r.head? = some 61 then (4, [61, 61], 0, 2) else (4, [c], 0, 1))
    else if sigI (bI c) = true then (4, [c], 0, 1)
    else if bI c = 39 then (3, r.take (nmN r true), 0, nmN r true + 1)
    else if digI (bI c) = true then (2, (c :: r).take (dgN (c :: r)), numV ((c :: r).take (dgN (c :: r))) 0, dgN (c :: r))
    else if namI (bI c) true = true then (1, (c :: r).take (nmN (c :: r) true), 0, nmN (c :: r) true)
    else (0, [c], 0, 1)
def rightS (t : Wd) : Bool := if t.1 = 1 then decide (t.2.1.length ≤ 32) else if t.1 = 3 then nameS t.2.1 else if t.1 = 2 then decide (0 ≤ t.2.2.1) else t.1 == 4
def oneS (l : Bs) : Option Wd := if rightS (waS l) = true then some (waS l) else none
/-- A word with its place: kind, place, text, number. -/
abbrev Tk := Int × Nat × Bs × Int
def consT (t : Tk) : Nat ⊕ List Tk → Nat ⊕ List Tk
  | .inl e => .inl e
  | .inr ts => .inr (t :: ts)
def wF : Nat → Bs → Nat → Nat ⊕ List Tk
  | 0, _, p => .inl p
  | _ + 1, [], _ => .inr []
  | f + 1, c :: r, p => match oneS (c :: r) with
    | none => .inl p
    | some (kd, tx, v, m) => consT (kd, p, tx, v) (wF f (((c :: r).drop m).drop (btw ((c :: r).drop m) false)) (p + m + btw ((c :: r).drop m) false))
def Wl (l : Bs) (p : Nat) : Nat ⊕ List Tk := wF (l.length + 1) l p
/-- The words from a place on, behind what stands between. -/
def TT (l : Bs) (q : Nat) : Nat ⊕ List Tk := Wl (l.drop (btw l false)) (q + btw l false)
theorem btw_cons (c : UInt8) (r : Bs) (rm : Bool) : btw (c :: r) rm = if bI c = 10 then btw r false + 1 else if bI c = 35 then btw r true + 1 else if rm = true ∨ bI c = 32 ∨ bI c = 9 ∨ bI c = 13 then btw r rm + 1 else 0 := rfl
theorem nmN_cons (c : UInt8) (r : Bs) (f : Bool) : nmN (c :: r) f = if namI (bI c) f = true then nmN r false + 1 else 0 := rfl
theorem dgN_cons (c : UInt8) (r : Bs) : dgN (c :: r) = if digI (bI c) = true then dgN r + 1 else 0 := rfl
/-! How long. -/
theorem btw_le (l : Bs) : ∀ rm, btw l rm ≤ l.length := by
  induction l with
  | nil => intro rm; exact Nat.le_refl _
  | cons c r ih =>
    intro rm
    rw [btw_cons]
    have h1 := ih false
    have h2 := ih true
    have h3 := ih rm
    simp only [List.length_cons]
    repeat' split
    all_goals omega
theorem nmN_le (l : Bs) : ∀ f, nmN l f ≤ l.length := by
  induction l with
  | nil => intro f; exact Nat.le_refl _
  | cons c r ih =>
    intro f
    rw [nmN_cons]
    have h1 := ih false
    simp only [List.length_cons]
    split <;> omega
theorem dgN_le (l : Bs) : dgN l ≤ l.length := by
  induction l with
  | nil => exact Nat.le_refl _
  | cons c r ih =>
    rw [dgN_cons]
    simp only [List.length_cons]
    split <;> omega
theorem ltr_nodig {x : Int} (h : ltrI x = true) : digI x = false := by
  unfold ltrI at h
  unfold digI
  simp at h ⊢
  omega
theorem wa_cons (c : UInt8) (r : Bs) : waS (c :: r) =
    if bI c = 61 then (if r.head? = some 61 then (4, [61, 61], 0, 2) else (4, [c], 0, 1))
    else if sigI (bI c) = true then (4, [c], 0, 1)
    else if bI c = 39 then (3, r.take (nmN r true), 0, nmN r true + 1)
    else if digI (bI c) = true then (2, (c :: r).take (dgN (c :: r)), numV ((c :: r).take (dgN (c :: r))) 0, dgN (c :: r))
    else if namI (bI c) true = true then (1, (c :: r).take (nmN (c :: r) true), 0, nmN (c :: r) true)
    else (0, [c], 0, 1) := rfl
theorem one_some {l : Bs} {t : Wd} (h : oneS l = some t) : waS l = t ∧ rightS t = true := by
  unfold oneS at h
  split at h
  · rename_i h1
    obtain rfl := Option.some.inj h
    exact ⟨rfl, h1⟩
  · cases h
/-- A right word: where it ends, and its bytes. -/
theorem one_is {l : Bs} {kd : Int} {tx : Bs} {v : Int} {m : Nat} (h : oneS l = some (kd, tx, v, m)) :
    1 ≤ m ∧ m ≤ l.length ∧ l.take m = (if kd = 3 then 39 :: tx else tx) ∧ (1 ≤ kd ∧ kd ≤ 4) := by
  obtain ⟨h1, h2⟩ := one_some h
  cases l with
  | nil => unfold waS at h1; cases h1; cases h2
  | cons c r =>
    rw [wa_cons] at h1
    have hn := nmN_le r true
    have hc := nmN_le (c :: r) true
    have hd := dgN_le (c :: r)
    split at h1
    · rename_i h3
      have e : c = 61 := UInt8.toNat_inj.1 (by unfold bI at h3; show c.toNat = 61; omega)
      subst e
      split at h1
      · rename_i h4
        cases r with
        | nil => cases h4
        | cons d r' =>
          simp at h4
          subst h4
          cases h1
          simp
      · cases h1
        simp
    split at h1
    · cases h1
      simp
    split at h1
    · rename_i h3
      have e : c = 39 := UInt8.toNat_inj.1 (by unfold bI at h3; show c.toNat = 39; omega)
      subst e
      cases h1
      simp
      omega
    split at h1
    · rename_i h3
      cases h1
      have : 1 ≤ dgN (c :: r) := by rw [dgN_cons, if_pos h3]; omega
      simp at hd ⊢
      omega
    split at h1
    · rename_i h3
      cases h1
      have : 1 ≤ nmN (c :: r) true := by rw [nmN_cons, if_pos h3]; omega
      simp at hc ⊢
      omega
    · cases h1
      cases h2
theorem wF_fuel : ∀ (f g : Nat) (l : Bs) (p : Nat), l.length < f → l.length < g → wF f l p = wF g l p := by
  intro f
  induction f with
  | zero => intro g l p h; omega
  | succ f ih =>
    intro g l p h1 h2
    cases g with
    | zero => omega
    | succ g =>
      cases l with
      | nil => rfl
      | cons c r =>
        simp only [wF]
        cases h : oneS (c :: r) with
        | none => rfl
        | some t =>
          obtain ⟨kd, tx, v, m⟩ := t
          obtain ⟨k1, k2, -⟩ := one_is h
          have e : ((((c :: r).drop m).drop (btw ((c :: r).drop m) false))).length < f := by
            simp only [List.length_drop, List.length_cons] at *
            omega
          have e' : ((((c :: r).drop m).drop (btw ((c :: r).drop m) false))).length < g := by
            simp only [List.length_drop, List.length_cons] at *
            omega
          show consT _ _ = consT _ _
          rw [ih g _ _ e e']
theorem Wl_nil (p : Nat) : Wl [] p = .inr [] := rfl
theorem Wl_none {c : UInt8} {r : Bs} {p : Nat} (h : oneS (c :: r) = none) : Wl (c :: r) p = .inl p := by
  unfold Wl
  simp only [List.length_cons, wF, h]
theorem Wl_some {c : UInt8} {r : Bs} {p : Nat} {kd : Int} {tx : Bs} {v : Int} {m : Nat} (h : oneS (c :: r) = some (kd, tx, v, m)) :
    Wl (c :: r) p = consT (kd, p, tx, v) (TT ((c :: r).drop m) (p + m)) := by
  obtain ⟨k1, k2, -⟩ := one_is h
  unfold TT Wl
  simp only [List.length_cons, wF, h]
  congr 1
  refine wF_fuel _ _ _ _ ?_ (Nat.lt_succ_self _)
  simp only [List.length_drop, List.length_cons] at *
  omega
/-! Errors stand inside. -/
theorem inl_room : ∀ (n : Nat) (l : Bs), l.length ≤ n → ∀ (q e : Nat), TT l q = .inl e → q ≤ e ∧ e < q + l.length := by
  intro n
  induction n with
  | zero =>
    intro l hl q e h
    obtain rfl : l = [] := List.eq_nil_of_length_eq_zero (by omega)
    unfold TT at h
    rw [show btw [] false = 0 from rfl] at h
    rw [List.drop_zero, Wl_nil] at h
    cases h
  | succ n ih =>
    intro l hl q e h
    unfold TT at h
    have hb := btw_le l false
    obtain ⟨k, hk⟩ : ∃ k, btw l false = k := ⟨_, rfl⟩
    rw [hk] at h hb
    cases hd : l.drop k with
    | nil => rw [hd, Wl_nil] at h; cases h
    | cons c r =>
      have hlen : (c :: r).length = l.length - k := by rw [← hd]; simp
      simp at hlen
      rw [hd] at h
      cases h1 : oneS (c :: r) with
      | none => rw [Wl_none h1] at h; cases h; omega
      | some t =>
        obtain ⟨kd, tx, v, m⟩ := t
        obtain ⟨k1, k2, -⟩ := one_is h1
        rw [Wl_some h1] at h
        cases h3 : TT ((c :: r).drop m) (q + k + m) with
        | inr ts => rw [h3] at h; cases h
        | inl e' =>
          rw [h3] at h
          cases h
          have := ih ((c :: r).drop m) (by simp at k2 ⊢; omega) _ _ h3
          simp at this k2
          omega
/-! Two sources. -/
theorem btw_app (b : Bs) (l : Bs) : ∀ rm, btw (l ++ 10 :: b) rm = if btw l rm = l.length then l.length + 1 + btw b false else btw l rm := by
  induction l with
  | nil => intro rm; simp [btw, bI]; omega
  | cons c r ih =>
    intro rm
    simp only [List.cons_append, btw_cons, List.length_cons]
    by_cases h1 : bI c = 10
    · simp only [if_pos h1, ih]
      split <;> rename_i h <;> (try split) <;> omega
    · simp only [if_neg h1]
      by_cases h2 : bI c = 35
      · simp only [if_pos h2, ih]
        split <;> rename_i h <;> (try split) <;> omega
      · simp only [if_neg h2]
        by_cases h3 : rm = true ∨ bI c = 32 ∨ bI c = 9 ∨ bI c = 13
        · simp only [if_pos h3, ih]
          split <;> rename_i h <;> (try split) <;> omega
        · simp only [if_neg h3]
          split <;> omega
theorem nmN_app (b : Bs) (l : Bs) : ∀ f, nmN (l ++ 10 :: b) f = nmN l f := by
  induction l with
  | nil => intro f; rw [List.nil_append, nmN_cons, if_neg (by cases f <;> decide)]; rfl
  | cons c r ih => intro f; simp only [List.cons_append, nmN_cons, ih]
theorem dgN_app (b : Bs) (l : Bs) : dgN (l ++ 10 :: b) = dgN l := by
  induction l with
  | nil => rw [List.nil_append, dgN_cons, if_neg (by decide)]; rfl
  | cons c r ih => simp only [List.cons_append, dgN_cons, ih]
theorem take_app (l s : Bs) (k : Nat) (h : k ≤ l.length) : (l ++ s).take k = l.take k := List.take_append_of_le_length h
theorem wa_app (b : Bs) (c : UInt8) (r : Bs) : waS ((c :: r) ++ 10 :: b) = waS (c :: r) := by
  have e1 : nmN (c :: (r ++ 10 :: b)) true = nmN (c :: r) true := nmN_app b (c :: r) true
  have e2 : dgN (c :: (r ++ 10 :: b)) = dgN (c :: r) := dgN_app b (c :: r)
  have t1 : (c :: (r ++ 10 :: b)).take (nmN (c :: r) true) = (c :: r).take (nmN (c :: r) true) := take_app (c :: r) (10 :: b) _ (nmN_le _ _)
  have t2 : (c :: (r ++ 10 :: b)).take (dgN (c :: r)) = (c :: r).take (dgN (c :: r)) := take_app (c :: r) (10 :: b) _ (dgN_le _)
  have t3 : (r ++ 10 :: b).take (nmN r true) = r.take (nmN r true) := take_app r _ _ (nmN_le _ _)
  have hh : ((r ++ 10 :: b).head? = some 61) ↔ (r.head? = some 61) := by
    cases r with
    | nil => simp
    | cons d r' => simp
  simp only [List.cons_append, waS, e1, e2, t1, t2, t3, nmN_app, hh]
theorem one_app (b : Bs) (c : UInt8) (r : Bs) : oneS ((c :: r) ++ 10 :: b) = oneS (c :: r) := by
  unfold oneS
  rw [wa_app]
def appT (ts : List Tk) : Nat ⊕ List Tk → Nat ⊕ List Tk
  | .inl e => .inl e
  | .inr us => .inr (ts ++ us)
theorem tt_app (b : Bs) : ∀ (n : Nat) (l : Bs), l.length ≤ n → ∀ q, TT (l ++ 10 :: b) q = match TT l q with
    | .inl e => .inl e
    | .inr ts => appT ts (TT b (q + l.length + 1)) := by
  intro n
  induction n with
  | zero =>
    intro l hl q
    obtain rfl : l = [] := List.eq_nil_of_length_eq_zero (by omega)
    have h0 : btw (10 :: b) false = 1 + btw b false := by have := btw_app b [] false; simpa [btw] using this
    show TT (10 :: b) q = appT [] (TT b (q + 0 + 1))
    unfold TT
    rw [h0, show (10 :: b).drop (1 + btw b false) = b.drop (btw b false) by rw [Nat.add_comm]; rfl, show q + (1 + btw b false) = q + 0 + 1 + btw b false by omega]
    cases Wl (b.drop (btw b false)) (q + 0 + 1 + btw b false) <;> rfl
  | succ n ih =>
    intro l hl q
    have hb := btw_le l false
    have ha := btw_app b l false
    by_cases hk : btw l false = l.length
    · rw [if_pos hk] at ha
      have e1 : TT l q = .inr [] := by unfold TT; rw [hk, List.drop_length, Wl_nil]
      rw [e1]
      show TT (l ++ 10 :: b) q = appT [] _
      unfold TT
      rw [ha, show (l ++ 10 :: b).drop (l.length + 1 + btw b false) = b.drop (btw b false) by
        rw [Nat.add_assoc, List.drop_length_add_append, Nat.add_comm]; rfl, show q + (l.length + 1 + btw b false) = q + l.length + 1 + btw b false by omega]
      cases Wl (b.drop (btw b false)) (q + l.length + 1 + btw b false) <;> rfl
    · rw [if_neg hk] at ha
      obtain ⟨k, hkk⟩ : ∃ k, btw l false = k := ⟨_, rfl⟩
      rw [hkk] at ha hk hb
      have hdr : (l ++ 10 :: b).drop k = l.drop k ++ 10 :: b := List.drop_append_of_le_length hb
      unfold TT
      rw [ha, hkk, hdr]
      cases hd : l.drop k with
      | nil => exact absurd (List.drop_eq_nil_iff.1 hd) (by omega)
      | cons c r =>
        have hlen : (c :: r).length = l.length - k := by rw [← hd]; simp
        cases h1 : oneS (c :: r) with
        | none => rw [Wl_none h1]; exact Wl_none ((one_app b c r).trans h1)
        | some t =>
          obtain ⟨kd, tx, v, m⟩ := t
          obtain ⟨k1, k2, -⟩ := one_is h1
          have h2 := (one_app b c r).trans h1
          rw [Wl_some h1]
          rw [show c :: r ++ 10 :: b = c :: (r ++ 10 :: b) from rfl] at h2 ⊢
          rw [Wl_some h2]
          have e : (c :: (r ++ 10 :: b)).drop m = (c :: r).drop m ++ 10 :: b := List.drop_append_of_le_length (l₁ := c :: r) k2
          rw [e, ih ((c :: r).drop m) (by simp at hlen k2 ⊢; omega)]
          have e3 : q + k + m + ((c :: r).drop m).length + 1 = q + l.length + 1 := by
            have := hlen
            simp at this k2 ⊢
            omega
          rw [e3]
          cases TT ((c :: r).drop m) (q + k + m) with
          | inl e => rfl
          | inr ts => 
            show consT _ (appT ts (TT b (q + l.length + 1))) = appT (_ :: ts) (TT b (q + l.length + 1))
            cases TT b (q + l.length + 1) <;> rfl
def shT (q : Nat) : Nat ⊕ List Tk → Nat ⊕ List Tk
  | .inl e => .inl (e + q)
  | .inr ts => .inr (ts.map fun t => (t.1, t.2.1 + q, t.2.2.1, t.2.2.2))
theorem tt_sh (q : Nat) : ∀ (n : Nat) (l : Bs), l.length ≤ n → ∀ p, TT l (p + q) = shT q (TT l p) := by
  intro n
  induction n with
  | zero =>
    intro l hl p
    obtain rfl : l = [] := List.eq_nil_of_length_eq_zero (by omega)
    rfl
  | succ n ih =>
    intro l hl p
    have hb := btw_le l false
    unfold TT
    obtain ⟨k, hkk⟩ : ∃ k, btw l false = k := ⟨_, rfl⟩
    rw [hkk] at hb ⊢
    cases hd : l.drop k with
    | nil => rfl
    | cons c r =>
      have hlen : (c :: r).length = l.length - k := by rw [← hd]; simp
      cases h1 : oneS (c :: r) with
      | none => rw [Wl_none h1, Wl_none h1]; show Sum.inl _ = Sum.inl _; congr 1; omega
      | some t =>
        obtain ⟨kd, tx, v, m⟩ := t
        obtain ⟨k1, k2, -⟩ := one_is h1
        rw [Wl_some h1, Wl_some h1, show p + q + k + m = (p + k + m) + q by omega, ih _ (by simp at hlen k2 ⊢; omega)]
        cases TT ((c :: r).drop m) (p + k + m) with
        | inl e => rfl
        | inr ts => show Sum.inr _ = Sum.inr _; simp; omega
/-! What stands between begins no word. -/
theorem btw_self (l : Bs) : ∀ rm, btw (l.take (btw l rm)) rm = btw l rm := by
  induction l with
  | nil => intro rm; rfl
  | cons c r ih =>
    intro rm
    rw [btw_cons]
    by_cases h1 : bI c = 10
    · rw [if_pos h1]; simp only [List.take_succ_cons]; rw [btw_cons, if_pos h1, ih]
    · rw [if_neg h1]
      by_cases h2 : bI c = 35
      · rw [if_pos h2]; simp only [List.take_succ_cons]; rw [btw_cons, if_neg h1, if_pos h2, ih]
      · rw [if_neg h2]
        by_cases h3 : rm = true ∨ bI c = 32 ∨ bI c = 9 ∨ bI c = 13
        · rw [if_pos h3]; simp only [List.take_succ_cons]; rw [btw_cons, if_neg h1, if_neg h2, if_pos h3, ih]
        · rw [if_neg h3]; rfl
theorem tt_between (l : Bs) : TT (l.take (btw l false)) 0 = .inr [] := by
  unfold TT
  rw [btw_self, List.drop_eq_nil_of_le (by rw [List.length_take]; omega), Wl_nil]
/-- The first word of those from a place on. -/
theorem tt_first {l : Bs} {q : Nat} {t : Tk} {ts : List Tk} (h : TT l q = .inr (t :: ts)) : ∃ m, t.2.1 = q + btw l false ∧ 1 ≤ m ∧ btw l false + m ≤ l.length
    ∧ (l.drop (btw l false)).take m = (if t.1 = 3 then 39 :: t.2.2.1 else t.2.2.1) ∧ (1 ≤ t.1 ∧ t.1 ≤ 4) ∧ TT (l.drop (btw l false + m)) (q + btw l false + m) = .inr ts := by
  unfold TT at h
  have hb := btw_le l false
  obtain ⟨k, hkk⟩ : ∃ k, btw l false = k := ⟨_, rfl⟩
  rw [hkk] at hb h ⊢
  cases hd : l.drop k with
  | nil => rw [hd, Wl_nil] at h; cases h
  | cons c r =>
    have hlen : (c :: r).length = l.length - k := by rw [← hd]; simp
    rw [hd] at h
    cases h1 : oneS (c :: r) with
    | none => rw [Wl_none h1] at h; cases h
    | some u =>
      obtain ⟨kd, tx, v, m⟩ := u
      obtain ⟨k1, k2, k3, k4⟩ := one_is h1
      rw [Wl_some h1] at h
      cases h3 : TT ((c :: r).drop m) (q + k + m) with
      | inl e => rw [h3] at h; cases h
      | inr us =>
        rw [h3] at h
        cases h
        refine ⟨m, rfl, k1, ?_, k3, k4, ?_⟩
        · simp at hlen k2; omega
        · rw [← List.drop_drop, hd]; exact h3
theorem tt_last {l : Bs} {q : Nat} (h : TT l q = .inr []) : btw l false = l.length := by
  have hb := btw_le l false
  unfold TT at h
  cases hd : l.drop (btw l false) with
  | nil => have := List.drop_eq_nil_iff.1 hd; omega
  | cons c r =>
    rw [hd] at h
    cases h1 : oneS (c :: r) with
    | none => rw [Wl_none h1] at h; cases h
    | some u =>
      obtain ⟨kd, tx, v, m⟩ := u
      rw [Wl_some h1] at h
      cases h3 : TT ((c :: r).drop m) (q + btw l false + m) with
      | inl e => rw [h3] at h; cases h
      | inr us => rw [h3] at h; cases h
/-! Numbers. -/
theorem numV_app (l : Bs) (c : UInt8) : ∀ a, numV (l ++ [c]) a = stepN (numV l a) (bI c - 48) := by
  induction l with
  | nil => intro a; rfl
  | cons d r ih => intro a; exact ih _
def decD (u : Nat) : Bs := if h : u < 10 then [UInt8.ofNat (48 + u)] else decD (u / 10) ++ [UInt8.ofNat (48 + u % 10)]
termination_by u
decreasing_by omega
theorem dec_lt (u : Nat) (h : u < 10) : decD u = [UInt8.ofNat (48 + u)] := by rw [decD, dif_pos h]
theorem dec_ge (u : Nat) (h : ¬ u < 10) : decD u = decD (u / 10) ++ [UInt8.ofNat (48 + u % 10)] := by rw [decD, dif_neg h]
theorem bI_dig (d : Nat) (h : d < 10) : bI (UInt8.ofNat (48 + d)) = 48 + (d : Int) := by
  unfold bI
  rw [UInt8.toNat_ofNat']
  omega
theorem dec_all (u : Nat) : ∀ c ∈ decD u, digI (bI c) = true := by
  induction u using Nat.strongRecOn with
  | _ u ih =>
    by_cases h : u < 10
    · rw [dec_lt u h]; intro c hc
      obtain rfl := List.mem_singleton.1 hc
      rw [bI_dig u h]; unfold digI; simp; omega
    · rw [dec_ge u h]; intro c hc
      rcases List.mem_append.1 hc with hc | hc
      · exact ih _ (by omega) c hc
      · obtain rfl := List.mem_singleton.1 hc
        rw [bI_dig _ (by omega)]; unfold digI; simp; omega
theorem dec_ne (u : Nat) : decD u ≠ [] := by
  by_cases h : u < 10
  · rw [dec_lt u h]; simp
  · rw [dec_ge u h]; simp
theorem dec_num (u : Nat) : numV (decD u) 0 = if u ≤ 2305843009213693951 then (u : Int) else -1 := by
  induction u using Nat.strongRecOn with
  | _ u ih =>
    by_cases h : u < 10
    · rw [dec_lt u h]
      show stepN 0 (bI _ - 48) = _
      rw [bI_dig u h]
      unfold stepN
      rw [if_neg (by omega), if_pos (by omega)]
      omega
    · rw [dec_ge u h, numV_app, ih _ (by omega), bI_dig _ (by omega)]
      unfold stepN
      split <;> split <;> (try split) <;> omega
theorem dgN_all (l : Bs) (h : ∀ c ∈ l, digI (bI c) = true) : dgN l = l.length := by
  induction l with
  | nil => rfl
  | cons c r ih =>
    rw [dgN_cons, if_pos (h c (List.mem_cons_self ..)), ih fun d hd => h d (List.mem_cons_of_mem _ hd)]
    rfl
theorem tt_num (u : Nat) : TT (decD u) 0 = if u ≤ 2305843009213693951 then .inr [(2, 0, decD u, (u : Int))] else .inl 0 := by
  have ha := dec_all u
  have hn := dec_num u
  cases hd : decD u with
  | nil => exact absurd hd (dec_ne u)
  | cons c r =>
    rw [hd] at ha hn
    have hc := ha c (List.mem_cons_self ..)
    have hc' := hc
    unfold digI at hc'
    simp at hc'
    have hb : btw (c :: r) false = 0 := by
      rw [btw_cons, if_neg (by omega), if_neg (by omega), if_neg (by simp; omega)]
    have hw : waS (c :: r) = (2, c :: r, numV (c :: r) 0, (c :: r).length) := by
      have hs : sigI (bI c) = false := by unfold sigI; simp; omega
      have h1 := dgN_all _ ha
      simp only [waS]
      rw [if_neg (by omega), if_neg (by rw [hs]; simp), if_neg (by omega), if_pos hc, h1, List.take_length]
    unfold TT
    rw [hb, List.drop_zero]
    by_cases h : u ≤ 2305843009213693951
    · rw [if_pos h] at hn ⊢
      have h1 : oneS (c :: r) = some (2, c :: r, (u : Int), (c :: r).length) := by
        unfold oneS
        rw [hw, hn]
        rfl
      rw [Wl_some h1, List.drop_length]
      rfl
    · rw [if_neg h] at hn ⊢
      refine Wl_none ?_
      unfold oneS
      rw [hw, hn]
      rfl
/-! The chapter's example. -/
theorem tt_lives : TT [115, 101, 110, 100, 32, 112, 44, 32, 123, 39, 97, 44, 32, 49, 50, 125, 59] 0 = .inr [(1, 0, [115, 101, 110, 100], 0), (1, 5, [112], 0), (4, 6, [44], 0), (4, 8, [123], 0), (3, 9, [97], 0), (4, 11, [44], 0), (2, 13, [49, 50], 12), (4, 15, [125], 0), (4, 16, [59], 0)] := by
  decide +kernel
end Go.Proofs.Ytchcfjlkgnlnoaa
