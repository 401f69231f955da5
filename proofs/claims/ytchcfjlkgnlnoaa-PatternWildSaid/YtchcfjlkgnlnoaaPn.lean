/-
  Proved here: a value is the same as itself, the reference's; one value in a new list; patterns of variables. Conditions: the memory holds the value.
-/
import Derived.Test.YtchcfjlkgnlnoaaPm
import Derived.Lib.QuietBelow
namespace Go.Proofs.Ytchcfjlkgnlnoaa
open Go.Sort Go.RowKit Go.ChangeMaps
set_option linter.unusedVariables false
set_option linter.unusedSimpArgs false
set_option maxRecDepth 100000
set_option maxHeartbeats 4000000
theorem regrown_nbS {P : Program} {f : FuncId} {args : Array Value} {w : World} {d : Nat} {os : Array Obj} {v : Value}
    (h : Calls P f args (grow (redrawn w d) os) fun e w' => e = .returned v ∧ Nb (grow (redrawn w d) os) w') : Calls P f args (grow (redrawn w d) os) fun e w'' => e = .returned v ∧ ∃ p : Regrown, w'' = grow (redrawn w p.d) p.os :=
  Calls.regrown_of h
theorem rsame_self (W0 : World) : ∀ (a : Vl), a.Has W0 → ∀ w, Nb W0 w →
    Calls Try.prog 20 #[.agg a.cells.toArray, .agg a.cells.toArray] w fun r w' => r = .returned (.bool true) ∧ Nb w w' := by
  intro a
  induction a using Vl.ind with
  | h a ih =>
    intro ha w hw
    obtain ⟨A, c, hav, hcap, hlen, hA⟩ := ha.vls.head
    have hX := Lib.hid (show VlsHas W0 (.slice A a.args.length c) a.args by rw [← hav]; exact ha.vls)
    have hcs : a.cells.toArray = #[.int .i64 a.kind, .int .i64 a.n, .slice A a.args.length c] := by rw [← hav]; rfl
    rw [hcs]
    clear hcs
    obtain ⟨N, hN⟩ : ∃ N, a.args.length = N := ⟨_, rfl⟩
    have hNh := Lib.hid hN
    rw [hN] at hcap hlen hX hav ⊢
    obtain ⟨ka, hka⟩ : ∃ k, a.kind = k := ⟨_, rfl⟩
    obtain ⟨na, hna⟩ : ∃ k, a.n = k := ⟨_, rfl⟩
    rw [hka, hna]
    clear hN hav hka hna
    go_enter Try.func20, Try.ntmps20
    go_upto_region 1 with (fail)
    obtain ⟨W1, hW⟩ : ∃ W1, (w.alloc (Obj.cells #[.int .i64 ka, .int .i64 na, .slice A N c] 31)).alloc (Obj.cells #[.int .i64 ka, .int .i64 na, .slice A N c] 31) = W1 := ⟨_, rfl⟩
    have n1 : Nb w W1 := by rw [← hW]; exact ((Nb.refl w).alloc _).alloc _
    have bA : W1.heap[w.heap.size]? = some (.cells #[.int .i64 ka, .int .i64 na, .slice A N c] 31 (0, 0)) := by rw [← hW]; exact old_blk (new_blk _ _ rfl) _
    have bB : W1.heap[w.heap.size + 1]? = some (.cells #[.int .i64 ka, .int .i64 na, .slice A N c] 31 (0, 0)) := by rw [← hW]; exact new_blk _ _ (by simp)
    rw [hW]
    clear hW
    obtain ⟨D, hD⟩ : ∃ D, w.heap.size + 1 = D := ⟨_, rfl⟩
    obtain ⟨B, hB⟩ : ∃ B, w.heap.size = B := ⟨_, rfl⟩
    rw [hD] at bB ⊢
    rw [hB] at bA ⊢
    clear hB hD
    have a0 := cell_of_row _ _ 0 _ _ _ bA
    have a1 := cell_of_row _ _ 1 _ _ _ bA
    have a2 := cell_of_row _ _ 2 _ _ _ bA
    have b0 := cell_of_row _ _ 0 _ _ _ bB
    have b1 := cell_of_row _ _ 1 _ _ _ bB
    have b2 := cell_of_row _ _ 2 _ _ _ bB
    have hw1 := hw.trans n1
    go_wp2_with fail
    go_loopw [5] (fun si wr => ∃ i : Nat, i ≤ N ∧ si = .int .i64 i ∧ Nb W1 wr) (fun si _ => N - (intOf si).toNat)
    case atStart => exact ⟨0, Nat.zero_le _, rfl, Nb.refl _⟩
    case round =>
      obtain ⟨i, hi, rfl, hg⟩ := hrel
      replace a2 := hg.cell a2
      replace b2 := hg.cell b2
      by_cases hlt : i < N
      · have hlt2 : (i : Int) < (N : Int) := by omega
        obtain ⟨x, hx⟩ : ∃ x, a.args[i]? = some x := ⟨_, List.getElem?_eq_getElem (by rw [hNh.out]; exact hlt)⟩
        obtain ⟨b', o', rfl, ⟨y0, y1, y2⟩, hxh⟩ := hX.out.at_ hx
        have hnb := hw1.trans hg
        obtain ⟨Ax, cx, hax, -, -, -⟩ := hxh.vls.head
        obtain ⟨Lx, hLx⟩ : ∃ Lx, x.args.length = Lx := ⟨_, rfl⟩
        rw [hLx] at hax
        clear hLx
        have hcx : x.cells.toArray = #[.int .i64 x.kind, .int .i64 x.n, .slice Ax Lx cx] := by rw [← hax]; rfl
        rw [hax] at y2
        clear hax
        have hcall : Hid (∀ W', Nb wr W' → Calls Try.prog 20 #[.agg #[.int .i64 x.kind, .int .i64 x.n, .slice Ax Lx cx], .agg #[.int .i64 x.kind, .int .i64 x.n, .slice Ax Lx cx]] W' (fun r w' => r = .returned (.bool true) ∧ Nb W' w')) := Lib.hid (fun W' n' => by
          rw [← hcx]
          exact ih x (List.mem_of_getElem? hx) hxh W' (hnb.trans n'))
        have d0 := cell_regrown (hnb.cell y0)
        have d1 := cell_regrown (hnb.cell y1)
        have d2 := cell_regrown (hnb.cell y2)
        have d6 := cell_regrown a2
        have d7 := cell_regrown b2
        clear y0 y1 y2 hcx hx hxh ih hnb
        go_upto_region 6 with (fail)
        clear a2 b2
        have hcall2 := Lib.hid (fun (d : Nat) (os : Array Obj) => hcall.out (grow (redrawn wr d) os) (below_regrown wr d os))
        refine wp_region_quiet_below (by kernel_rfl) (by kernel_rfl) ?_
        repeat (quiet_step ((first | (go_at_call 20; with_reducible exact regrown_nbS (hcall2.out _ _)))))
        refine wpQuiet_nil ?_
        intro w4 hw'
        obtain ⟨⟨dq, osq⟩, hw''⟩ := hw'
        have n4 : Nb wr w4 := by rw [hw'']; exact below_regrown wr dq osq
        clear hw'' d0 d1 d2 d6 d7
        go_wp2_with fail
        exact ⟨⟨i + 1, by omega, by simp, hg.trans n4⟩, by simp [intOf] <;> omega⟩
      · obtain rfl : i = N := by omega
        have hlt2 : ¬ (i : Int) < (i : Int) := by omega
        go_wp2_with fail
        go_ret
        exact ⟨rfl, n1.trans hg⟩
theorem one_has {w : World} {g : Nat} {a : Vl} (h : w.heap[g]? = some (.cells #[.int .i64 a.kind, .int .i64 a.n, a.av] 31 (0, 0))) (ha : a.Has w) : VlsHas w (.slice (some ⟨g, 0, none⟩) 1 1) [a] := by
  refine ⟨rowS_blk h rfl (Nat.le_refl _) (by decide) ?_ ?_, ?_⟩
  · intro r hr
    simp only [List.map_cons, List.map_nil, List.mem_singleton] at hr
    subst hr; rfl
  · intro k u hu
    simpa [Vl.cells] using hu
  · intro x hx
    rw [List.mem_singleton.1 hx]; exact ha
/-- A variable of a letter. -/
abbrev varE (s : Bs) : Ex := .mk 4 0 0 s (.slice none 0 0) []
abbrev varsE (av : Value) (l : List Bs) : Ex := .mk 5 0 0 [] av (l.map varE)
theorem vars_tsL (pl : Bs → Int) (path : List Int) : ∀ (l : List Bs) (i : Nat), Ex.tsL pl path i (l.map varE) = []
  | [], i => by simp [Ex.tsL]
  | s :: l, i => by simp [Ex.tsL, Ex.tsP, vars_tsL pl path l (i + 1)]
theorem vars_ts (pl : Bs → Int) (av : Value) (l : List Bs) : (varsE av l).tsP pl [] = [⟨[], 5, (l.length : Int)⟩] := by
  simp [Ex.tsP, vars_tsL]
theorem vars_vsL (path : List Int) : ∀ (l : List Bs) (i : Nat), (Ex.vsL path i (l.map varE)).length = l.length ∧ ∀ (j : Nat) (s : Bs), l[j]? = some s → (Ex.vsL path i (l.map varE))[j]? = some (s, path ++ [((i + j : Nat) : Int)])
  | [], i => by simp [Ex.vsL]
  | s :: l, i => by
    obtain ⟨h1, h2⟩ := vars_vsL path l (i + 1)
    refine ⟨by simp [Ex.vsL, Ex.vsP, h1], fun j t hj => ?_⟩
    cases j with
    | zero =>
      simp only [List.getElem?_cons_zero, Option.some.injEq] at hj
      subst hj
      simp [Ex.vsL, Ex.vsP]
    | succ j =>
      rw [List.getElem?_cons_succ] at hj
      have := h2 j t hj
      simp only [List.map_cons, Ex.vsL, Ex.vsP, if_true, List.cons_append, List.nil_append, List.getElem?_cons_succ]
      rw [this, show i + 1 + j = i + (j + 1) by omega]
theorem vars_vs (av : Value) (l : List Bs) : ((varsE av l).vsP []).length = l.length ∧ ∀ (j : Nat) (s : Bs), l[j]? = some s → ((varsE av l).vsP [])[j]? = some (s, [(j : Int)]) := by
  obtain ⟨h1, h2⟩ := vars_vsL [] l 0
  have e : (varsE av l).vsP [] = Ex.vsL [] 0 (l.map varE) := by simp [Ex.vsP]
  rw [e]
  exact ⟨h1, fun j s hj => by have := h2 j s hj; simpa using this⟩
theorem vars_full (av : Value) (l : List Bs) (h : 0 < l.length) : (varsE av l).full = true := by
  obtain ⟨h1, -⟩ := vars_vsL [] l 0
  have h2 : ∀ m : List Bs, Ex.fullL (m.map varE) = true := fun m => by
    induction m with
    | nil => simp [Ex.fullL]
    | cons a m ih => simp [Ex.fullL, Ex.full, ih]
  simp [Ex.full, h1, h2, h]
theorem vars_dpt (av : Value) (l : List Bs) : (varsE av l).dpt ≤ 2 := by
  have h2 : ∀ m : List Bs, Ex.dptL (m.map varE) ≤ 1 := fun m => by
    induction m with
    | nil => simp [Ex.dptL]
    | cons a m ih => simp only [List.map_cons, Ex.dptL, Ex.dpt]; omega
  have := h2 l
  simp only [Ex.dpt]
  omega
theorem vars_has {w : World} {base g c n : Nat} {l : List Bs} (h : w.ownsRow base 24 5 (.slice (some ⟨g, 0, none⟩) n c) n ((l.map fun s => (varE s).cells).flatten)) (hn : l.length = n) (hm : n ≤ 1000000) (hl : ∀ s ∈ l, s.length ≤ 9223372036854775807) : (varsE (.slice (some ⟨g, 0, none⟩) n c) l).Has w := by
  subst hn
  have hc := own_clip h
  refine .mk ⟨some ⟨g, 0, none⟩, c, by simp [Ex.av, Ex.args], by simpa [Ex.args] using hc.1, by simp [Ex.args]; omega, (fun h => nomatch h), fun i r hi => ⟨g, 0, rfl, fun j u hu => ?_⟩⟩ ?_ (by simp [Ex.n]) (by simp [Ex.name])
  · have hrow : (l.map fun s => (varE s).cells)[i]? = some r := by
      simp only [Ex.args, List.map_map] at hi
      exact hi
    have hlen : ∀ r ∈ (l.map fun s => (varE s).cells), r.length = 5 := by
      intro r hr
      obtain ⟨s, -, rfl⟩ := List.mem_map.1 hr
      rfl
    have hf := flat_get 5 _ hlen i r hrow j u hu
    have hk := (List.getElem?_eq_some_iff.1 hf).1
    have hx := h.1
    rw [show 0 + i * 5 + j = i * 5 + j by omega, h.cellAt _ (by omega)]
    exact hf
  · intro x hx
    simp only [Ex.args, List.mem_map] at hx
    obtain ⟨s, hs, rfl⟩ := hx
    exact leaf_hasE _ _ _ _ (by decide) (by decide) (hl s hs)
end Go.Proofs.Ytchcfjlkgnlnoaa
