/-
  Proved here: what the value of a word is, as a plain function; values' shapes; values that memory of their own holds stay while one box turns. Conditions: none.
-/
import Derived.Test.YtmoggaecnjcjfaaVj
import Derived.Laws.BitsAllLaws
namespace Go.Proofs.Ytmoggaecnjcjfaa
open Go.RowKit Go.ChangeMaps
set_option linter.unusedVariables false
set_option linter.unusedSimpArgs false
set_option maxRecDepth 100000
set_option maxHeartbeats 4000000
/-- A value without its memory. -/
inductive Pv where
  | mk (kind n : Int) (args : List Pv)
mutual
def Vl.sh : Vl → Pv
  | .mk k n _ l => .mk k n (Vl.shL l)
def Vl.shL : List Vl → List Pv
  | [] => []
  | x :: l => x.sh :: Vl.shL l
end
theorem shL_map (l : List Vl) : Vl.shL l = l.map Vl.sh := by
  induction l with
  | nil => rfl
  | cons x l ih => simp only [Vl.shL, List.map_cons, ih]
theorem Vl.sh_eq (v : Vl) : v.sh = .mk v.kind v.n (v.args.map Vl.sh) := by
  cases v with | mk k n av l => simp only [Vl.sh, Vl.kind, Vl.n, Vl.args, shL_map]
/-- What Decode answers: an error, or a value. -/
inductive Rs where
  | bad (e : Int)
  | good (p : Pv)
def leafR (w : Int) : Rs :=
  if w % 4 = 0 then .good (.mk 1 (wrap64 w / 4) []) else if 1048575 < w / 4 then .bad 151 else .good (.mk (if w % 4 = 3 then 3 else 2) (w / 4) [])
/-- The words of a tuple's parts. -/
def partsR (xs : List Int) (bs at_ : Int) : Option (List Int) :=
  if at_ % 8 ≠ 0 ∨ at_ < bs ∨ (at_ - bs) % 8 ≠ 0 then none
  else if xs.length ≤ ((at_ - bs) / 8).toNat then none
  else if xs.getD ((at_ - bs) / 8).toNat 0 < 1 ∨ 4 < xs.getD ((at_ - bs) / 8).toNat 0 ∨ ((xs.length - ((at_ - bs) / 8).toNat - 1 : Nat) : Int) < xs.getD ((at_ - bs) / 8).toNat 0 then none
  else some ((xs.drop (((at_ - bs) / 8).toNat + 1)).take (xs.getD ((at_ - bs) / 8).toNat 0).toNat)
def decL (f : Int → Nat → Nat × Rs) : List Int → Nat → List Pv → Nat × Rs
  | [], met, acc => (met, .good (.mk 4 0 acc))
  | p :: r, met, acc => match f p met with
    | (m, .bad e) => (m, .bad e)
    | (m, .good x) => decL f r m (acc ++ [x])
def decV (xs : List Int) (bs : Int) : Nat → Int → Nat → Nat × Rs
  | 0 => fun w met => if 4096 < met + 1 then (met + 1, .bad 150) else if w % 4 ≠ 1 then (met + 1, leafR w) else (met + 1, .bad 150)
  | k + 1 => fun w met => if 4096 < met + 1 then (met + 1, .bad 150) else if w % 4 ≠ 1 then (met + 1, leafR w) else match partsR xs bs (w - 1) with
    | none => (met + 1, .bad 151)
    | some ps => decL (decV xs bs k) ps (met + 1) []
theorem partsR_some {xs ps : List Int} {bs at_ : Int} (h : partsR xs bs at_ = some ps) : at_ % 8 = 0 ∧ bs ≤ at_ ∧ (at_ - bs) % 8 = 0 ∧ ∃ k m : Nat, (at_ - bs) / 8 = (k : Int) ∧ k < xs.length ∧ xs[k]? = some (m : Int) ∧ 1 ≤ m ∧ m ≤ 4 ∧ k + 1 + m ≤ xs.length ∧ ps = (xs.drop (k + 1)).take m := by
  unfold partsR at h
  split at h
  · cases h
  rename_i h1
  split at h
  · cases h
  rename_i h2
  split at h
  · cases h
  rename_i h3
  simp only [Option.some.injEq] at h
  have hk : ((at_ - bs) / 8) = ((((at_ - bs) / 8).toNat : Nat) : Int) := by omega
  obtain ⟨k, hk'⟩ : ∃ k, ((at_ - bs) / 8).toNat = k := ⟨_, rfl⟩
  rw [hk'] at hk h h2 h3
  have hlt : k < xs.length := by omega
  have hg : xs.getD k 0 = xs[k] := by simp [List.getD, hlt]
  rw [hg] at h h3
  refine ⟨by omega, by omega, by omega, k, (xs[k]).toNat, hk, hlt, ?_, by omega, by omega, by omega, h.symm⟩
  rw [List.getElem?_eq_getElem hlt]
  congr 1
  omega
/-- Each list of a value lies in a block of values, no elder than one, of which nothing is frozen. -/
inductive Vl.Frv (lb : Nat) (w : World) : Vl → Prop
  | mk {e : Vl} (blk : ∀ b o L c, e.av = .slice (some ⟨b, o, none⟩) L c → lb ≤ b ∧ ∃ cs, w.heap[b]? = some (.cells cs 24 (0, 0))) (kids : ∀ x ∈ e.args, Vl.Frv lb w x) : Vl.Frv lb w e
theorem Vl.Frv.blk {lb : Nat} {w : World} {e : Vl} (h : e.Frv lb w) {b o L c : Nat} (he : e.av = .slice (some ⟨b, o, none⟩) L c) : lb ≤ b ∧ ∃ cs, w.heap[b]? = some (.cells cs 24 (0, 0)) := by cases h with | mk r _ => exact r b o L c he
theorem Vl.Frv.kids {lb : Nat} {w : World} {e : Vl} (h : e.Frv lb w) : ∀ x ∈ e.args, Vl.Frv lb w x := by cases h with | mk _ k => exact k
theorem Vl.Frv.mono {lb lb' : Nat} {w : World} {e : Vl} (h : e.Frv lb w) (hb : lb' ≤ lb) : e.Frv lb' w := by
  induction h with
  | mk b _ ih => exact .mk (fun b' o L c he => ⟨by have := (b b' o L c he).1; omega, (b b' o L c he).2⟩) ih
theorem Vl.Frv.fre {lb : Nat} {w : World} {e : Vl} (h : e.Frv lb w) : e.Fre w := by
  induction h with
  | mk b _ ih => exact .mk (fun b' o L c he => by obtain ⟨-, cs, hc⟩ := b b' o L c he; exact ⟨cs, _, hc⟩) ih
/-- Where no such block has turned. -/
theorem keeps_of {lb : Nat} {w w' : World} (g : ∀ b cs, lb ≤ b → w.heap[b]? = some (.cells cs 24 (0, 0)) → w'.heap[b]? = some (.cells cs 24 (0, 0))) : ∀ (v : Vl), v.Has w → v.Frv lb w → v.Has w' ∧ v.Frv lb w' := by
  intro v
  induction v using Vl.ind with
  | h v ih =>
    intro h1 h2
    obtain ⟨A, cap, hav, hcap, hlen, hA⟩ := h1.vls.head
    have hr := h1.vls.row
    refine ⟨.mk ?_ (fun x hx => (ih x hx (h1.vls.kids x hx) (h2.kids x hx)).1) h1.num, .mk ?_ (fun x hx => (ih x hx (h1.vls.kids x hx) (h2.kids x hx)).2)⟩
    · obtain ⟨A', cap', e, hc, hl, hz, hrr⟩ := hr
      refine ⟨A', cap', e, hc, hl, hz, fun i r hi => ?_⟩
      obtain ⟨b, o, hA', hj⟩ := hrr i r hi
      refine ⟨b, o, hA', fun j u hu => ?_⟩
      subst hA'
      obtain ⟨hb, c, hcb⟩ := h2.blk e
      have := hj j u hu
      rw [World.cell?_of_block (w := w) (w' := w')]
      · exact this
      · show w'.heap[b]? = w.heap[b]?
        rw [g b c hb hcb, hcb]
    · intro b o L c he
      obtain ⟨hb, c', hcb⟩ := h2.blk he
      exact ⟨hb, c', g b c' hb hcb⟩
/-- Where only one box, that holds no values, and new blocks have turned. -/
theorem keeps_gb {lb mt : Nat} {w w' : World} {cs : Array Value} {t : TypeId} {fr : Nat × Nat} (hm : w.heap[mt]? = some (.cells cs t fr)) (ht : t ≠ 24) (g : Gb mt w w') (v : Vl) (h1 : v.Has w) (h2 : v.Frv lb w) : v.Has w' ∧ v.Frv lb w' :=
  keeps_of (fun b c hb hc => g.block hc (fun e => by
    subst e
    rw [hm] at hc
    simp only [Option.some.injEq, Obj.cells.injEq] at hc
    exact ht hc.2.1)) v h1 h2
theorem keeps_nb {lb : Nat} {w w' : World} (k : Nb w w') {v : Vl} (h1 : v.Has w) (h2 : v.Frv lb w) : v.Has w' ∧ v.Frv lb w' :=
  keeps_of (fun b c hb hc => k.block hc) v h1 h2
theorem keeps_set {lb : Nat} {w : World} (p : Addr) (hp : p.block < lb) (u : Value) {v : Vl} (h1 : v.Has w) (h2 : v.Frv lb w) : v.Has (w.setCell p u) ∧ v.Frv lb (w.setCell p u) :=
  keeps_of (fun b c hb hc => by rw [heap_setCell_other _ _ _ _ (by omega)]; exact hc) v h1 h2
theorem and_three (w : Int) (h0 : 0 ≤ w) (h1 : w < 18446744073709551616) : bits .and .u64 w 3 = w % 4 := by
  obtain ⟨n, rfl⟩ : ∃ n : Nat, w = (n : Int) := ⟨w.toNat, by omega⟩
  have h : n &&& 3 = n % 4 := Nat.and_two_pow_sub_one_eq_mod n 2
  rw [show (3 : Int) = ((3 : Nat) : Int) from rfl, u64_and_nat _ _ (by omega) (by decide), h]
  omega
end Go.Proofs.Ytmoggaecnjcjfaa
