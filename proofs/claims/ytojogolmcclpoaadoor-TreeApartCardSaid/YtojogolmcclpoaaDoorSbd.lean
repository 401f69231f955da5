/-
  Proved here: how long the text of a tree is that may be. Conditions: stated.
-/
import Derived.Test.YtojogolmcclpoaaDoorSav
namespace Go.Proofs.YtojogolmcclpoaaDoor
set_option linter.unusedVariables false
set_option linter.unusedSimpArgs false
theorem dec_lenT : ∀ (k u : Nat), u < 10 ^ (k + 1) → (Lib.decDigits u).length ≤ k + 1
  | 0, u, h => by
    rw [Lib.decDigits, dif_pos (by omega)]
    exact Nat.le_refl _
  | k + 1, u, h => by
    rw [Lib.decDigits]
    split
    · simp
    · rw [List.length_append]
      have h2 := dec_lenT k (u / 10) (by rw [Nat.pow_succ] at h; omega)
      simp only [List.length_cons, List.length_nil]
      omega
theorem itoa_lenT {n : Int} (h0 : -2305843009213693951 ≤ n) (h1 : n ≤ 2305843009213693951) : (Lib.itoa n).length ≤ 20 := by
  unfold Lib.itoa
  split
  · rw [List.length_cons]
    have := dec_lenT 18 n.natAbs (by omega)
    omega
  · have := dec_lenT 18 n.toNat (by omega)
    omega
theorem name_lenT {s : Bs} (h : nameS s = true) : s.length ≤ 32 := by
  unfold nameS at h
  simp only [Bool.and_eq_true, decide_eq_true_eq] at h
  exact h.1.1.2
theorem rec_lenT {s : Bs} (h : recS s = true) : s.length ≤ 2 := by
  unfold recS at h
  simp only [Bool.or_eq_true, beq_iff_eq] at h
  rcases h with (((rfl | rfl) | rfl) | rfl) | rfl <;> simp
theorem jn_lenT (l : List Bs) : (jnT l).length ≤ sumL (l.map fun x => x.length + 2) := by
  have key : ∀ l : List Bs, ((l.map fun y => [44, 32] ++ y).flatten).length = sumL (l.map fun x => x.length + 2) := by
    intro l
    induction l with
    | nil => rfl
    | cons x l ih =>
      rw [List.map_cons, List.flatten_cons, List.length_append, ih]
      show _ = (x.length + 2) + sumL _
      simp only [List.length_append, List.length_cons, List.length_nil]
      omega
  cases l with
  | nil => simp [jnT]
  | cons x l =>
    rw [jnT, List.length_append, key]
    show _ ≤ (x.length + 2) + sumL _
    omega
theorem sum_leT {α : Type} {f g : α → Nat} {c : Nat} {l : List α} (h : ∀ x ∈ l, f x ≤ c * g x) : sumL (l.map f) ≤ c * sumL (l.map g) := by
  induction l with
  | nil => exact Nat.zero_le _
  | cons x l ih =>
    have h1 := h x (List.mem_cons_self ..)
    have h2 := ih fun y hy => h y (List.mem_cons_of_mem _ hy)
    show f x + sumL (l.map f) ≤ c * (g x + sumL (l.map g))
    rw [Nat.mul_add]
    omega
theorem getD_lenT (l : List Bs) : (l.getD 0 []).length + (l.getD 1 []).length ≤ sumL (l.map fun x => x.length + 2) := by
  match l with
  | [] => simp
  | [x] => show x.length + 0 ≤ (x.length + 2) + 0; omega
  | x :: y :: r => show x.length + y.length ≤ (x.length + 2) + ((y.length + 2) + _); omega
theorem flat_lenT {α : Type} (f : α → Bs) (l : List α) : ((l.map f).flatten).length = sumL (l.map fun x => (f x).length) := by
  induction l with
  | nil => rfl
  | cons x l ih =>
    rw [List.map_cons, List.flatten_cons, List.length_append, ih]
    rfl
theorem len_E : ∀ (k : Nat) (e : Ex), dpE k e < k → gE e = true → (txE e).length + 2 ≤ 64 * szE k e
  | 0, e, h, _ => absurd h (Nat.not_lt_zero _)
  | k + 1, e, h, hg => by
    have h1 : maxL (e.args.map (dpE k)) < k := by
      have : dpE (k + 1) e = 1 + maxL (e.args.map (dpE k)) := rfl
      omega
    rw [gE_eq, Bool.and_eq_true] at hg
    obtain ⟨hg, hgs⟩ := hg
    rw [gEs_all, List.all_eq_true] at hgs
    have hs : sumL ((txEs e.args).map fun x => x.length + 2) ≤ 64 * sumL (e.args.map (szE k)) := by
      rw [txEs_map, List.map_map]
      exact sum_leT fun x hx => len_E k x (maxL_at (dpE k) hx h1) (hgs x hx)
    have hj := jn_lenT (txEs e.args)
    have hd := getD_lenT (txEs e.args)
    have hz : szE (k + 1) e = 1 + sumL (e.args.map (szE k)) := rfl
    rw [hz, txE_eq]
    unfold reckS at hg
    rw [show (hdE e).kind = e.kind from rfl, show (hdE e).name = e.name from rfl, show (hdE e).n = e.n from rfl] at hg
    by_cases k1 : e.kind = 1
    · simp only [k1, if_true, Bool.and_eq_true, inI, decide_eq_true_eq] at hg ⊢
      have := itoa_lenT (n := e.n) (by omega) (by omega)
      omega
    · by_cases k2 : e.kind = 2
      · simp only [k2, if_true, if_false, true_or, Int.reduceEq, Bool.and_eq_true] at hg ⊢
        have := name_lenT hg.1
        simp only [List.length_append, List.length_cons, List.length_nil]
        omega
      · by_cases k3 : e.kind = 3
        · simp only [k3, if_true, if_false, or_true, Int.reduceEq, Bool.and_eq_true] at hg ⊢
          have := name_lenT hg.1
          omega
        · by_cases k4 : e.kind = 4
          · simp only [k4, if_true, if_false, Int.reduceEq, List.length_cons, List.length_nil]
            omega
          · by_cases k5 : e.kind = 5
            · simp only [k5, if_true, if_false, Int.reduceEq, List.length_append, List.length_cons, List.length_nil]
              omega
            · simp only [k1, k2, k3, k4, k5, if_false, or_self] at hg ⊢
              by_cases k6 : e.kind = 6
              · simp only [k6, if_true, Bool.and_eq_true] at hg
                have := rec_lenT hg.1
                simp only [List.length_append, List.length_cons, List.length_nil]
                omega
              · simp only [k6, if_false, Bool.false_eq_true] at hg
theorem len_T : ∀ (k : Nat) (e : Ex), dpE k e < k → gT e = true → (txT e).length + 2 ≤ 64 * szE k e
  | 0, e, h, _ => absurd h (Nat.not_lt_zero _)
  | k + 1, e, h, hg => by
    have h1 : maxL (e.args.map (dpE k)) < k := by
      have : dpE (k + 1) e = 1 + maxL (e.args.map (dpE k)) := rfl
      omega
    rw [gT_eq, Bool.and_eq_true] at hg
    obtain ⟨hg, hgs⟩ := hg
    rw [gTs_all, List.all_eq_true] at hgs
    have hs : sumL ((txTs e.args).map fun x => x.length + 2) ≤ 64 * sumL (e.args.map (szE k)) := by
      rw [txTs_map, List.map_map]
      exact sum_leT fun x hx => len_T k x (maxL_at (dpE k) hx h1) (hgs x hx)
    have hj := jn_lenT (txTs e.args)
    have hz : szE (k + 1) e = 1 + sumL (e.args.map (szE k)) := rfl
    rw [hz, txT_eq]
    unfold matchS at hg
    rw [show (hdT e).kind = e.kind from rfl, show (hdT e).name = e.name from rfl, show (hdT e).n = e.n from rfl] at hg
    by_cases k1 : e.kind = 1
    · simp only [k1, if_true, List.length_cons, List.length_nil]
      omega
    · by_cases k2 : e.kind = 2
      · simp only [k2, if_true, if_false, Int.reduceEq, Bool.and_eq_true, inI, decide_eq_true_eq] at hg ⊢
        have := itoa_lenT (n := e.n) (by omega) (by omega)
        omega
      · by_cases k3 : e.kind = 3
        · simp only [k3, if_true, if_false, true_or, Int.reduceEq, Bool.and_eq_true] at hg ⊢
          have := name_lenT hg.1
          simp only [List.length_append, List.length_cons, List.length_nil]
          omega
        · by_cases k4 : e.kind = 4
          · simp only [k4, if_true, if_false, or_true, Int.reduceEq, Bool.and_eq_true] at hg ⊢
            have := name_lenT hg.1
            omega
          · simp only [k1, k2, k3, k4, if_false, List.length_append, List.length_cons, List.length_nil]
            omega
theorem len_jnE (k : Nat) (l : List Ex) (h : dpEs k l < k) (hg : gEs l = true) : (jnT (txEs l)).length ≤ 64 * szEs k l := by
  rw [gEs_all, List.all_eq_true] at hg
  refine Nat.le_trans (jn_lenT _) ?_
  rw [txEs_map, List.map_map]
  exact sum_leT fun x hx => len_E k x (maxL_at (dpE k) hx h) (hg x hx)
theorem len_S (k : Nat) (s : St) (h : dpEs k s.args < k) (hg : gSt s = true) : (txS s).length + 1 ≤ 128 * szS k s := by
  unfold gSt at hg
  rw [Bool.and_eq_true] at hg
  obtain ⟨hg, hgs⟩ := hg
  have hj := len_jnE k s.args h hgs
  have hz : szS k s = 1 + szEs k s.args := rfl
  rw [hz]
  unfold txS acT
  unfold stateS at hg
  rw [show (hdS s).kind = s.kind from rfl, show (hdS s).name = s.name from rfl, show (hdS s).actor = s.actor from rfl] at hg
  by_cases k1 : s.kind = 1
  · simp only [k1, if_true, Bool.and_eq_true] at hg ⊢
    have := name_lenT hg.1
    simp only [List.length_append, List.length_cons, List.length_nil]
    omega
  · by_cases k2 : s.kind = 2
    · simp only [k2, if_true, if_false, Int.reduceEq, Bool.and_eq_true, callS] at hg ⊢
      have := name_lenT hg.1.1
      have := name_lenT hg.1.2.1
      simp only [List.length_append, List.length_cons, List.length_nil]
      omega
    · by_cases k3 : s.kind = 3
      · simp only [k3, if_true, if_false, Int.reduceEq, List.length_append, List.length_cons, List.length_nil]
        omega
      · simp only [k1, k2, k3, if_false, List.length_append, List.length_cons, List.length_nil]
        omega
theorem len_B : ∀ (k : Nat) (b : Bd), dpB k b < k → gB b = true → (txB b).length + 2 ≤ 128 * szB k b
  | 0, b, h, _ => absurd h (Nat.not_lt_zero _)
  | k + 1, b, h, hg => by
    have h0 : dpB (k + 1) b = 1 + max (dpEs k b.args) (max (maxL (b.stmts.map fun s => dpEs k s.args)) (max (maxL (b.parts.map (dpB k))) (maxL (b.arms.map fun m => max (dpE k m.pat) (max (dpEs k m.guard) (dpB k m.body)))))) := rfl
    have h1 : dpEs k b.args < k := by omega
    have h2 : maxL (b.stmts.map fun s => dpEs k s.args) < k := by omega
    have h3 : maxL (b.parts.map (dpB k)) < k := by omega
    have h4 : maxL (b.arms.map fun m => max (dpE k m.pat) (max (dpEs k m.guard) (dpB k m.body))) < k := by omega
    rw [gB_eq] at hg
    simp only [Bool.and_eq_true] at hg
    obtain ⟨hg, hgst, hgs, hgp, hga⟩ := hg
    rw [gSts_all, List.all_eq_true] at hgst
    rw [gBs_all, List.all_eq_true] at hgp
    rw [gAs_all, List.all_eq_true] at hga
    have hj := len_jnE k b.args h1 hgs
    have hS : (txSs b.stmts).length ≤ 128 * sumL (b.stmts.map (szS k)) := by
      rw [txSs_map, flat_lenT]
      refine sum_leT fun s hs => ?_
      have := len_S k s (maxL_at (fun s : St => dpEs k s.args) hs h2) (hgst s hs)
      simp only [List.length_append, List.length_cons, List.length_nil]
      omega
    have hP : sumL ((txBs b.parts).map fun x => x.length + 2) ≤ 128 * sumL (b.parts.map (szB k)) := by
      rw [txBs_map, List.map_map]
      exact sum_leT fun x hx => len_B k x (maxL_at (dpB k) hx h3) (hgp x hx)
    have hP1 := jn_lenT (txBs b.parts)
    have hP2 := getD_lenT (txBs b.parts)
    have hA : (txAs b.arms).length ≤ 128 * sumL (b.arms.map fun m => szE k m.pat + szEs k m.guard + szB k m.body) := by
      rw [txAs_map, flat_lenT]
      refine sum_leT fun m hm => ?_
      have h5 := maxL_at (fun m : Am => max (dpE k m.pat) (max (dpEs k m.guard) (dpB k m.body))) hm h4
      have h6 := hga m hm
      rw [gA_eq] at h6
      simp only [Bool.and_eq_true] at h6
      have l1 := len_T k m.pat (by omega) h6.2.1
      have l2 := len_B k m.body (by omega) h6.2.2.2
      have hgg := h6.2.2.1
      rw [gEs_all, List.all_eq_true] at hgg
      have l3 : (gdT m.guard).length ≤ 128 * szEs k m.guard := by
        rw [gdT_map, flat_lenT]
        refine sum_leT fun x hx => ?_
        have := len_E k x (maxL_at (dpE k) hx (show maxL (m.guard.map (dpE k)) < k by have : dpEs k m.guard = maxL (m.guard.map (dpE k)) := rfl; omega)) (hgg x hx)
        simp only [List.length_append, List.length_cons, List.length_nil]
        omega
      rw [txA_eq]
      simp only [List.length_append, List.length_cons, List.length_nil]
      omega
    have hz : szB (k + 1) b = 1 + szEs k b.args + sumL (b.stmts.map (szS k)) + sumL (b.parts.map (szB k)) + sumL (b.arms.map fun m => szE k m.pat + szEs k m.guard + szB k m.body) := rfl
    rw [hz, txB_eq]
    have hE : (endT b).length ≤ 110 + 64 * szEs k b.args + 128 * sumL (b.parts.map (szB k)) + 128 * sumL (b.arms.map fun m => szE k m.pat + szEs k m.guard + szB k m.body) := by
      unfold endT acT rcT
      unfold endS at hg
      rw [show (hdB b).kind = b.kind from rfl, show (hdB b).actor = b.actor from rfl, show (hdB b).late = b.late from rfl, show (hdB b).n = b.after from rfl] at hg
      by_cases k1 : b.kind = 1
      · simp only [k1, if_true, Bool.and_eq_true, callS] at hg ⊢
        have := name_lenT hg.1.1
        simp only [List.length_append, List.length_cons, List.length_nil]
        omega
      · by_cases k2 : b.kind = 2
        · simp only [k2, if_true, if_false, Int.reduceEq, List.length_append, List.length_cons, List.length_nil]
          omega
        · by_cases k3 : b.kind = 3
          · simp only [k3, if_true, if_false, Int.reduceEq, List.length_append, List.length_cons, List.length_nil]
            omega
          · simp only [k1, k2, k3, if_false] at hg ⊢
            by_cases k4 : b.kind = 4
            · simp only [k4, if_true] at hg
              cases hl : b.late with
              | false =>
                simp only [Bool.false_eq_true, if_false, List.length_append, List.length_cons, List.length_nil]
                omega
              | true =>
                simp only [hl, if_true, Bool.and_eq_true, inI, decide_eq_true_eq] at hg
                have := itoa_lenT (n := b.after) (by omega) (by omega)
                simp only [if_true, List.length_append, List.length_cons, List.length_nil]
                omega
            · simp only [k4, if_false, Bool.false_eq_true] at hg
    simp only [List.length_append, List.length_cons, List.length_nil]
    omega
theorem len_P (p : Pg) (hs : szP p ≤ 4096) (hd : dpP p < 65) (hg : gP p = true) : (txP p).length ≤ 1000000 := by
  have h0 : dpP p = max (dpEs 65 p.args) (maxL (p.defs.map fun d => dpB 65 d.body)) := rfl
  have hz : szP p = sumL (p.defs.map fun d => 1 + d.params.length + szB 65 d.body) + szEs 65 p.args := rfl
  unfold gP at hg
  simp only [Bool.and_eq_true] at hg
  obtain ⟨⟨-, hgm, -⟩, hgd, hgs⟩ := hg
  rw [List.all_eq_true] at hgd
  have hj := len_jnE 65 p.args (by omega) hgs
  have hD : (txDs p.defs).length ≤ 128 * sumL (p.defs.map fun d => 1 + d.params.length + szB 65 d.body) := by
    rw [txDs_map, flat_lenT]
    refine sum_leT fun d hd => ?_
    have h5 := maxL_at (fun d : Df => dpB 65 d.body) hd (show maxL _ < 65 by omega)
    have h6 := hgd d hd
    unfold gD at h6
    simp only [Bool.and_eq_true] at h6
    obtain ⟨⟨hn, -⟩, hps, hb⟩ := h6
    have l1 := len_B 65 d.body h5 hb
    have l2 := name_lenT hn
    rw [List.all_eq_true] at hps
    have l3 : (jnT d.params).length ≤ 34 * d.params.length := by
      refine Nat.le_trans (jn_lenT _) ?_
      have h7 : sumL (d.params.map fun x => x.length + 2) ≤ 34 * sumL (d.params.map fun _ => 1) := sum_leT fun s hs => by
        have := name_lenT (hps s hs)
        omega
      have h8 : sumL (d.params.map fun _ => 1) = d.params.length := by
        generalize d.params = l
        induction l with
        | nil => rfl
        | cons x l ih => show 1 + sumL _ = l.length + 1; rw [ih]; omega
      omega
    unfold txD
    simp only [List.length_append, List.length_cons, List.length_nil]
    omega
  have := name_lenT hgm
  unfold txP acT
  simp only [List.length_append, List.length_cons, List.length_nil]
  omega
end Go.Proofs.YtojogolmcclpoaaDoor
