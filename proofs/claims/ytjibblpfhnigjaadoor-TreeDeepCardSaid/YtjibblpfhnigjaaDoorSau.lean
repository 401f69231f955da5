/-
  Proved here: whether a part counts, by the code; how many of a program's parts count. Conditions: none.
-/
import Derived.Test.YtjibblpfhnigjaaDoorSat
namespace Go.Proofs.YtjibblpfhnigjaaDoor
open Go.RowKit Go.Shelf
set_option linter.unusedVariables false
set_option linter.unusedSimpArgs false
set_option maxRecDepth 100000
set_option maxHeartbeats 4000000
attribute [local go_sem] Oper.semAt_some
/-- Whether a part counts. -/
def Hd.cnt (h : Hd) : Bool := (h.sort != 1) && (h.sort != 6)
theorem counts_any (h : Hd) (w : World) : Calls Tryd.prog 47 #[.agg h.cells] w fun r w' => r = .returned (.bool h.cnt) ∧ Nb w w' := by
  have hc : h.cells = #[.int .i64 h.sort, .int .i64 h.kind, sV h.name, sV h.actor, .int .i64 h.n, .bool h.late, nV h.defs, nV h.params, nV h.stmts, nV h.args, nV h.parts, nV h.arms] := rfl
  have hcn : h.cnt = ((h.sort != 1) && (h.sort != 6)) := rfl
  rw [hc, hcn]
  clear hc hcn
  generalize h.sort = s
  cases h1 : (s != 1) with
  | false =>
    go_enter Tryd.func47, Tryd.ntmps47
    go_wp2_with fail
    go_ret
    exact ⟨rfl, (Nb.refl w).alloc _⟩
  | true =>
    go_enter Tryd.func47, Tryd.ntmps47
    go_wp2_with fail
    go_ret
    exact ⟨rfl, (Nb.refl w).alloc _⟩
def cntL (l : List Pt) : Nat := (l.filter fun x => x.2.cnt).length
theorem cntL_append (a b : List Pt) : cntL (a ++ b) = cntL a + cntL b := by unfold cntL; rw [List.filter_append, List.length_append]
theorem cntL_cons (x : Pt) (b : List Pt) : cntL (x :: b) = (if x.2.cnt = true then 1 else 0) + cntL b := by
  unfold cntL
  rw [List.filter_cons]
  split
  · rw [List.length_cons]; omega
  · omega
theorem cntL_prefix {a b : List Pt} (h : a <+: b) : cntL a ≤ cntL b := by
  obtain ⟨t, rfl⟩ := h
  rw [cntL_append]
  omega
theorem cntL_flatten {α : Type} (f : α → List Pt) (l : List α) : cntL (l.map f).flatten = sumL (l.map fun x => cntL (f x)) := by
  induction l with
  | nil => rfl
  | cons x l ih =>
    rw [List.map_cons, List.flatten_cons, cntL_append, ih]
    rfl
theorem sumL_congr {α : Type} {f g : α → Nat} {l : List α} (h : ∀ x ∈ l, f x = g x) : sumL (l.map f) = sumL (l.map g) := by rw [List.map_congr_left h]
theorem cntL_flE (h : Ex → Hd) (hc : ∀ e, (h e).cnt = true) : ∀ (k : Nat) (e : Ex), cntL (flE h k e) = szE k e
  | 0, _ => rfl
  | k + 1, e => by
    rw [flE, cntL_cons, if_pos (hc e), cntL_flatten, sumL_congr (fun x _ => cntL_flE h hc k x)]
    rfl
theorem cntL_flEs (h : Ex → Hd) (hc : ∀ e, (h e).cnt = true) (k : Nat) (l : List Ex) : cntL (flEs h k l) = szEs k l := by
  unfold flEs
  rw [cntL_flatten, sumL_congr (fun x _ => cntL_flE h hc k x)]
  rfl
theorem cntL_flS (k : Nat) (s : St) : cntL (flS k s) = szS k s := by
  rw [flS, cntL_cons, if_pos (show (hdS s).cnt = true from rfl), cntL_flEs _ (fun _ => rfl)]
  rfl
theorem cntL_flB : ∀ (k : Nat) (b : Bd), cntL (flB k b) = szB k b
  | 0, b => rfl
  | k + 1, b => by
    have h2 : ∀ m : Am, cntL ((65 - k, hdA m) :: (flE hdT k m.pat ++ flEs hdE k m.guard ++ flB k m.body)) = szE k m.pat + szEs k m.guard + szB k m.body := fun m => by
      rw [cntL_cons, if_neg (show ¬ (hdA m).cnt = true from by rw [show (hdA m).cnt = false from rfl]; decide), cntL_append, cntL_append, cntL_flE _ (fun _ => rfl), cntL_flEs _ (fun _ => rfl), cntL_flB k]
      omega
    rw [flB, cntL_cons, if_pos (show (hdB b).cnt = true from rfl), cntL_append, cntL_append, cntL_append, cntL_flatten, cntL_flatten, cntL_flatten, cntL_flEs _ (fun _ => rfl), sumL_congr (fun s _ => cntL_flS k s), sumL_congr (fun m _ => h2 m), sumL_congr (fun x _ => cntL_flB k x)]
    show _ = 1 + szEs k b.args + sumL (b.stmts.map (szS k)) + sumL (b.parts.map (szB k)) + sumL (b.arms.map fun m => szE k m.pat + szEs k m.guard + szB k m.body)
    omega
theorem cntL_flD (d : Df) : cntL (flD d) = 1 + d.params.length + szB 65 d.body := by
  unfold flD
  rw [cntL_cons, if_pos (show (hdD d).cnt = true from rfl), cntL_append, cntL_flB]
  have h : cntL (d.params.map fun s => (0, hdM s)) = d.params.length := by
    generalize d.params = l
    induction l with
    | nil => rfl
    | cons x l ih => rw [List.map_cons, cntL_cons, if_pos (show (hdM x).cnt = true from rfl), ih, List.length_cons]; omega
  rw [h]
  omega
theorem cntL_flP (p : Pg) : cntL (flP p) = szP p := by
  unfold flP szP
  rw [cntL_cons, if_neg (show ¬ (hdP p).cnt = true from by rw [show (hdP p).cnt = false from rfl]; decide), cntL_append, cntL_flatten, sumL_congr (fun d _ => cntL_flD d), cntL_flEs _ (fun _ => rfl)]
  omega
theorem cntL_snoc (pre : List Pt) (x : Pt) : cntL (pre ++ [x]) = cntL pre + (if x.2.cnt = true then 1 else 0) := by rw [cntL_append, cntL_cons]; rfl
end Go.Proofs.YtjibblpfhnigjaaDoor
