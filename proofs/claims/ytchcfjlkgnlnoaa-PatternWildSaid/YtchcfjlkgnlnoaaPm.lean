/-
  Proved here: patterns that are built; the chapter's example. Conditions: none.
-/
import Derived.Test.YtchcfjlkgnlnoaaPk
namespace Go.Proofs.Ytchcfjlkgnlnoaa
open Go.RowKit Go.ChangeMaps
set_option linter.unusedVariables false
set_option linter.unusedSimpArgs false
set_option maxRecDepth 100000
set_option maxHeartbeats 4000000
theorem flat_get {α : Type} (s : Nat) : ∀ (rows : List (List α)), (∀ r ∈ rows, r.length = s) → ∀ (i : Nat) (r : List α), rows[i]? = some r → ∀ (j : Nat) (u : α), r[j]? = some u → rows.flatten[i * s + j]? = some u
  | [], _, i, r, h, _, _, _ => by simp at h
  | q :: rows, hl, i, r, h, j, u, hu => by
    have hq := hl q (List.mem_cons_self ..)
    cases i with
    | zero =>
      simp only [List.getElem?_cons_zero, Option.some.injEq] at h
      subst h
      have hj := (List.getElem?_eq_some_iff.1 hu).1
      rw [List.flatten_cons, Nat.zero_mul, Nat.zero_add, List.getElem?_append_left hj]
      exact hu
    | succ i =>
      rw [List.getElem?_cons_succ] at h
      rw [List.flatten_cons, List.getElem?_append_right (by rw [hq, Nat.succ_mul]; omega), hq, show (i + 1) * s + j - s = i * s + j by rw [Nat.succ_mul]; omega]
      exact flat_get s rows (fun r hr => hl r (List.mem_cons_of_mem _ hr)) i r h j u hu
theorem rowS_blk {w : World} {g s n c : Nat} {cs : Array Value} {t : TypeId} {fr : Nat × Nat} {rows : List (List Value)} (h : w.heap[g]? = some (.cells cs t fr)) (hn : rows.length = n) (hnc : n ≤ c) (hm : n ≤ 1000000) (hr : ∀ r ∈ rows, r.length = s) (hc : ∀ (k : Nat) (u : Value), rows.flatten[k]? = some u → cs[k]? = some u) : RowS w s (.slice (some ⟨g, 0, none⟩) n c) rows := by
  subst hn
  refine ⟨some ⟨g, 0, none⟩, c, rfl, hnc, by omega, (fun h => nomatch h), fun i r hi => ⟨g, 0, rfl, fun j u hu => ?_⟩⟩
  rw [cell_of_row _ _ _ _ _ _ h, show 0 + i * s + j = i * s + j by omega]
  exact hc _ _ (flat_get s rows hr i r hi j u hu)
theorem leaf_hasE {w : World} (k a n : Int) (s : Bs) (h0 : -9223372036854775808 ≤ n) (h1 : n < 9223372036854775808) (hs : s.length ≤ 9223372036854775807) : (Ex.mk k a n s (.slice none 0 0) []).Has w :=
  .mk ⟨none, 0, rfl, Nat.le_refl _, by simp [Ex.args], fun _ => rfl, fun i r hi => by simp [Ex.args] at hi⟩ (fun x hx => by simp [Ex.args] at hx) ⟨h0, h1⟩ hs
def livE (av : Value) : Ex := .mk 5 0 0 [] av [.mk 3 0 0 [97] (.slice none 0 0) [], .mk 4 0 0 [120] (.slice none 0 0) [], .mk 2 0 3 [] (.slice none 0 0) []]
theorem liv_ts (av : Value) : (livE av).tsP (fun s => (lastO [[97]] s).getD (-1)) [] = [⟨[], 5, 3⟩, ⟨[0], 3, 0⟩, ⟨[2], 2, 3⟩] := by
  simp [livE, Ex.tsP, Ex.tsL, lastO, lastR]
theorem liv_vs (av : Value) : (livE av).vsP [] = [([120], [1])] := by
  simp [livE, Ex.vsP, Ex.vsL]
theorem liv_full (av : Value) : (livE av).full = true := by
  simp [livE, Ex.full, Ex.fullL, Ex.vsP, Ex.vsL]
theorem liv_dpt (av : Value) : (livE av).dpt = 2 := by
  simp [livE, Ex.dpt, Ex.dptL]
theorem liv_has {w : World} {g : Nat} (h : w.heap[g]? = some (.cells #[.int .i64 3, .int .i64 0, .int .i64 0, sV [97], .slice none 0 0, .int .i64 4, .int .i64 0, .int .i64 0, sV [120], .slice none 0 0, .int .i64 2, .int .i64 0, .int .i64 3, sV [], .slice none 0 0] 24 (0, 0))) : (livE (.slice (some ⟨g, 0, none⟩) 3 3)).Has w := by
  refine .mk ?_ ?_ (by simp [livE, Ex.n]) (by simp [livE, Ex.name])
  · refine rowS_blk h rfl (Nat.le_refl _) (by decide) ?_ ?_
    · intro r hr
      simp only [livE, Ex.args, List.map_cons, List.map_nil, List.mem_cons, List.not_mem_nil, or_false] at hr
      rcases hr with rfl | rfl | rfl <;> rfl
    · intro k u hu
      simpa [livE, Ex.args, Ex.cells, Ex.kind, Ex.at_, Ex.n, Ex.name, Ex.av] using hu
  · intro x hx
    simp only [livE, Ex.args, List.mem_cons, List.not_mem_nil, or_false] at hx
    rcases hx with rfl | rfl | rfl <;> exact leaf_hasE _ _ _ _ (by decide) (by decide) (by decide)
theorem lives_any (w : World) : Calls Try.prog 11 #[] w fun r w' => r = .returned (.bool true) ∧ Nb w w' := by
  go_enter Try.func11, Try.ntmps11
  go_upto_region 2 with (fail)
  obtain ⟨W1, hW1⟩ : ∃ W1, (w.alloc (Obj.cells #[.int .i64 3, .int .i64 0, .int .i64 0, sV [97], .slice none 0 0, .int .i64 4, .int .i64 0, .int .i64 0, sV [120], .slice none 0 0, .int .i64 2, .int .i64 0, .int .i64 3, sV [], .slice none 0 0] 24)).alloc (Obj.cells #[.int .i64 5, .int .i64 0, .int .i64 0, sV [], .slice (some ⟨w.heap.size, 0, none⟩) 3 3] 24) = W1 := ⟨_, rfl⟩
  have n1 : Nb w W1 := by rw [← hW1]; exact ((Nb.refl w).alloc _).alloc _
  have bA : W1.heap[w.heap.size]? = some (.cells #[.int .i64 3, .int .i64 0, .int .i64 0, sV [97], .slice none 0 0, .int .i64 4, .int .i64 0, .int .i64 0, sV [120], .slice none 0 0, .int .i64 2, .int .i64 0, .int .i64 3, sV [], .slice none 0 0] 24 (0, 0)) := by rw [← hW1]; exact old_blk (new_blk _ _ rfl) _
  have bP : W1.heap[w.heap.size + 1]? = some (.cells #[.int .i64 5, .int .i64 0, .int .i64 0, sV [], .slice (some ⟨w.heap.size, 0, none⟩) 3 3] 24 (0, 0)) := by rw [← hW1]; exact new_blk _ _ (by simp)
  rw [hW1]
  clear hW1
  obtain ⟨b, hb⟩ : ∃ b, w.heap.size + 1 = b := ⟨_, rfl⟩
  rw [hb] at bP ⊢
  obtain ⟨g, hg⟩ : ∃ g, w.heap.size = g := ⟨_, rfl⟩
  rw [hg] at bA bP ⊢
  clear hb hg
  have he := liv_has bA
  have hcs : (livE (.slice (some ⟨g, 0, none⟩) 3 3)).cells.toArray = #[.int .i64 5, .int .i64 0, .int .i64 0, sV [], .slice (some ⟨g, 0, none⟩) 3 3] := rfl
  have n2 : Nb W1 (W1.alloc (Obj.cells #[sV [97]] 9)) := (Nb.refl W1).alloc _
  have hN : NmsR (W1.alloc (Obj.cells #[sV [97]] 9)) (.slice (some ⟨W1.heap.size, 0, none⟩) 1 1) [[97]] :=
    rowS_blk (cs := #[sV [97]]) (new_blk W1 (Obj.cells #[sV [97]] 9) rfl) rfl (Nat.le_refl _) (by decide) (by intro r hr; simp only [List.map_cons, List.map_nil, List.mem_singleton] at hr; subst hr; rfl) (by intro k u hu; simpa using hu)
  have hT := Tests_any _ _ (he.nb n2) _ _ hN (by rw [liv_ts]; decide) (by rw [liv_dpt]; decide) _ (Nb.refl _)
  rw [liv_ts, hcs] at hT
  have hV := fun W (k : Nb W1 W) => Vars_any _ W (he.nb k) (liv_full _) (by rw [liv_vs]; decide) (by rw [liv_dpt]; decide)
  simp only [liv_vs, hcs] at hV
  replace hT := Lib.hid hT
  replace hV := Lib.hid hV
  replace n2 := Lib.hid n2
  have z0 := cell_of_row _ _ 0 _ _ _ bP
  have z1 := cell_of_row _ _ 1 _ _ _ bP
  have z2 := cell_of_row _ _ 2 _ _ _ bP
  have z3 := cell_of_row _ _ 3 _ _ _ bP
  have z4 := cell_of_row _ _ 4 _ _ _ bP
  clear hN he hcs bA
  go_upto_region 3 with (go_at_call 15; refine (hT.out).mono ?_; rintro r w3 ⟨v, rfl, n3, hts⟩)
  obtain ⟨B, rfl, -, hr⟩ := hts.row
  obtain ⟨g1, pv1, rfl, -, -, r1, -⟩ := hr 0 _ rfl
  obtain ⟨g2, pv2, e2, r2, -, -, i2⟩ := hr 2 _ rfl
  cases e2
  obtain ⟨A2, c2, rfl, -, -, -⟩ := i2.head
  obtain ⟨b2, o2, e3, q2⟩ := i2.at_ (i := 0) (r := [.int .i64 2]) rfl
  subst e3
  replace q2 := q2 0 _ rfl
  have n13 := n2.out.trans n3
  have bP3 := n13.block bP
  have y0 := cell_of_row _ _ 0 _ _ _ bP3
  have y1 := cell_of_row _ _ 1 _ _ _ bP3
  have y2 := cell_of_row _ _ 2 _ _ _ bP3
  have y3 := cell_of_row _ _ 3 _ _ _ bP3
  have y4 := cell_of_row _ _ 4 _ _ _ bP3
  have hV3 := Lib.hid (hV.out w3 n13)
  clear z0 z1 z2 z3 z4 bP bP3 hr hts i2 hT hV
  go_upto_region 4 with (go_at_call 12; refine (hV3.out).mono ?_; rintro r w4 ⟨nv, qv, rfl, n4, hvs⟩)
  obtain ⟨A5, c5, rfl, -, -, -⟩ := hvs.nm.head
  obtain ⟨b5, o5, e5, q5⟩ := hvs.nm.at_ (i := 0) (r := [sV [120]]) rfl
  subst e5
  replace q5 := q5 0 _ rfl
  obtain ⟨B6, rfl, hr6⟩ := hvs.ps
  obtain ⟨g6, pv6, rfl, q6, i6⟩ := hr6 0 _ rfl
  obtain ⟨A7, c7, rfl, -, -, -⟩ := i6.head
  obtain ⟨b7, o7, e7, q7⟩ := i6.at_ (i := 0) (r := [.int .i64 1]) rfl
  subst e7
  replace q7 := q7 0 _ rfl
  replace r1 := n4.cell r1
  replace r2 := n4.cell r2
  replace q2 := n4.cell q2
  have nfin := Lib.hid (n1.trans (n13.trans n4))
  simp only [Nat.zero_mul, Nat.mul_one, Nat.add_zero, Nat.zero_add] at r1 r2 q2 q5 q6 q7
  clear hr6 hvs i6 hV3 y0 y1 y2 y3 y4 n1 n2 n3 n4 n13
  go_wp2_with fail
  go_ret
  exact ⟨rfl, nfin.out⟩
end Go.Proofs.Ytchcfjlkgnlnoaa
