/-
  Proved here: the chapter's examples hold. Condition: the table of codes holds what its text lays.
-/
import Derived.Test.YtnooabgdcfegeaaDoorSbs
namespace Go.Proofs.YtnooabgdcfegeaaDoor
open Go.RowKit Go.Shelf Go.ChangeMaps
set_option linter.unusedVariables false
set_option linter.unusedSimpArgs false
set_option maxRecDepth 100000
set_option maxHeartbeats 8000000
attribute [local go_sem] Oper.semAt_some
theorem row_cell {w : World} {base : Nat} {e : TypeId} {sz k : Nat} {s : Value} {xs : List Value} (h : w.ownsRow base e sz s k xs) (j : Nat) (u : Value) (hj : xs[j]? = some u) :
    ∃ g cap, s = .slice (some ⟨g, 0, none⟩) k cap ∧ k ≤ cap ∧ w.cell? ⟨g, j, none⟩ = some u ∧ base ≤ g := by
  have hl := (List.getElem?_eq_some_iff.1 hj).1
  rcases h.2 with ⟨rfl, h0⟩ | ⟨g, cap, cur, rfl, hb, hg, hc, hm, hsz, ht⟩
  · rw [h.1, h0] at hl; omega
  · refine ⟨g, cap, rfl, hc, ?_, hb⟩
    rw [cell_of_row _ _ _ _ _ _ hg, ← Array.getElem?_toList]
    rw [← ht, List.getElem?_take] at hj
    split at hj
    · exact hj
    · cases hj
def exI : List Itm := [(4, (0, 0, 0, 0, 0, false, false), ⟨#[120]⟩, 0), (2, (0, 0, 0, 0, 0, false, false), ⟨#[120]⟩, 0)]
theorem ex_wrong : wrongI exI 8 = 0 := by decide +kernel
theorem ex_sum : wSum (exI.zip [false, false]) = 1 := by decide +kernel
theorem ex_ok : (inL exI [false, false] (stL exI (plcL 8 (exI.zip [false, false]))) (plcL 8 (exI.zip [false, false]))).all okI = true := by decide +kernel
theorem ex_len : (inL exI [false, false] (stL exI (plcL 8 (exI.zip [false, false]))) (plcL 8 (exI.zip [false, false]))).length = 1 := by decide +kernel
theorem ex_lb : lbL exI (plcL 8 (exI.zip [false, false])) = [(⟨#[120]⟩, 12)] := by decide +kernel
theorem ex_a : constI 5 4096 = [(1, 5, 0, 0, 4096, false, false)] := by kernel_rfl
theorem ex_b : constI 5 2048 = [(1, 5, 0, 0, 4096, false, false), (41, 5, 5, 0, -2048, false, false)] := by kernel_rfl
theorem ex_ans {w w' : World} {r : Ending} (h : AsmAns exI 8 [false, false] w r w') : ∃ A c g c2, r = .returned (.tuple #[.slice A 1 c, .slice (some ⟨g, 0, none⟩) 1 c2, .int .i64 0]) ∧ Nb w w' ∧ w'.cell? ⟨g, 1, none⟩ = some (.int .u64 12) ∧ 1 ≤ c2 := by
  rcases h with ⟨h1, -⟩ | ⟨-, h1, -⟩ | ⟨-, -, -, ⟨-, s, t, rfl, hn, hr, ht⟩ | ⟨h1, -⟩⟩
  · exact absurd ex_wrong h1
  · have e := ex_sum
    have e2 : List.replicate exI.length false = [false, false] := rfl
    rw [e2, e] at h1
    omega
  · rw [ex_len] at hr
    rw [ex_lb] at ht
    obtain ⟨A, c, rfl⟩ := row_sl hr
    obtain ⟨g, c2, rfl, hc, hcell, -⟩ := row_cell ht 1 (.int .u64 12) rfl
    exact ⟨A, c, g, c2, rfl, hn, hcell, hc⟩
  · rw [ex_ok] at h1; cases h1
theorem ex_at {w : World} {g : Nat} (h : w.heap[g]? = some (.cells #[.int .i64 4, .int .i64 0, .int .i64 0, .int .i64 0, .int .i64 0, .int .i64 0, .bool false, .bool false, .string ⟨#[120]⟩, .int .u64 0, .int .i64 2, .int .i64 0, .int .i64 0, .int .i64 0, .int .i64 0, .int .i64 0, .bool false, .bool false, .string ⟨#[120]⟩, .int .u64 0] 39 (0, 0))) : ItAt w g 0 exI := by
  intro k i hk j u hu
  have hj : j < 10 := by have := (List.getElem?_eq_some_iff.1 hu).1; simpa [itmC, i7C] using this
  rw [cell_of_row _ _ _ _ _ _ h]
  match k, hk with
  | 0, hk =>
    obtain rfl := Option.some.inj hk
    match j, hj with
    | 0, _ => exact hu
    | 1, _ => exact hu
    | 2, _ => exact hu
    | 3, _ => exact hu
    | 4, _ => exact hu
    | 5, _ => exact hu
    | 6, _ => exact hu
    | 7, _ => exact hu
    | 8, _ => exact hu
    | 9, _ => exact hu
  | 1, hk =>
    obtain rfl := Option.some.inj hk
    match j, hj with
    | 0, _ => exact hu
    | 1, _ => exact hu
    | 2, _ => exact hu
    | 3, _ => exact hu
    | 4, _ => exact hu
    | 5, _ => exact hu
    | 6, _ => exact hu
    | 7, _ => exact hu
    | 8, _ => exact hu
    | 9, _ => exact hu
  | k + 2, hk => simp [exI] at hk
theorem lives_any (w : World) (hC : Cod w) : Calls Tryd.prog 6 #[] w fun r w' => r = .returned (.bool true) ∧ Nb w w' := by
  have ha := Lib.hid (fun W => const_ok 5 4096 (by decide) (by decide) W)
  have hb := Lib.hid (fun W => const_ok 5 2048 (by decide) (by decide) W)
  rw [ex_a] at ha
  rw [ex_b] at hb
  have hasm := Lib.hid (fun (W : World) (hW : Nb w W) (g : Nat) (hg : W.heap[g]? = some (.cells #[.int .i64 4, .int .i64 0, .int .i64 0, .int .i64 0, .int .i64 0, .int .i64 0, .bool false, .bool false, .string ⟨#[120]⟩, .int .u64 0, .int .i64 2, .int .i64 0, .int .i64 0, .int .i64 0, .int .i64 0, .int .i64 0, .bool false, .bool false, .string ⟨#[120]⟩, .int .u64 0] 39 (0, 0))) => asm_none (some ⟨g, 0, none⟩) g 0 2 8 (by decide) (by decide) exI (fun _ => rfl) (by decide) (by decide) (fun i hi => by
    have h : ∀ i ∈ exI, 0 ≤ i.2.2.2 ∧ i.2.2.2 < 18446744073709551616 ∧ ImOk i.2.1 := by
      intro i hi
      rcases List.mem_cons.1 hi with rfl | hi
      · exact ⟨by decide, by decide, by unfold ImOk; decide⟩
      · rw [List.mem_singleton] at hi
        subst hi
        exact ⟨by decide, by decide, by unfold ImOk; decide⟩
    exact h i hi) W (hC.of_nb hW) (ex_at hg) (fun i hi => by
      rcases List.mem_cons.1 hi with rfl | hi
      · decide
      · rw [List.mem_singleton] at hi
        subst hi
        decide))
  go_enter Tryd.func6, Tryd.ntmps6
  go_upto_region 2 with (go_at_call 11; first | (refine (ha.out _).mono ?_; rintro r w1 ⟨s1, rfl, hr1, hn1⟩; obtain ⟨A1, c1, rfl⟩ := row_sl hr1; clear ha) | (refine (hb.out _).mono ?_; rintro r w2 ⟨s2, rfl, hr2, hn2⟩; obtain ⟨g2, c2, rfl, hc2, hcell2, -⟩ := row_cell hr2 11 (.int .i64 (-2048)) rfl; clear hb))
  have n2 := hn1.trans hn2
  clear hr1 hr2 hn1 hn2
  obtain ⟨GB, hGB⟩ : ∃ GB, w2.heap.size = GB := ⟨_, rfl⟩
  obtain ⟨W3, hW3⟩ : ∃ W3, w2.alloc (.cells #[.int .i64 4, .int .i64 0, .int .i64 0, .int .i64 0, .int .i64 0, .int .i64 0, .bool false, .bool false, .string ⟨#[120]⟩, .int .u64 0, .int .i64 2, .int .i64 0, .int .i64 0, .int .i64 0, .int .i64 0, .int .i64 0, .bool false, .bool false, .string ⟨#[120]⟩, .int .u64 0] 39) = W3 := ⟨_, rfl⟩
  have n3 : Nb w2 W3 := by rw [← hW3]; exact (Nb.refl _).alloc _
  have b3 : W3.heap[GB]? = some (.cells #[.int .i64 4, .int .i64 0, .int .i64 0, .int .i64 0, .int .i64 0, .int .i64 0, .bool false, .bool false, .string ⟨#[120]⟩, .int .u64 0, .int .i64 2, .int .i64 0, .int .i64 0, .int .i64 0, .int .i64 0, .int .i64 0, .bool false, .bool false, .string ⟨#[120]⟩, .int .u64 0] 39 (0, 0)) := by rw [← hW3, ← hGB]; exact new_bkc _ _ rfl
  have hA := Lib.hid (hasm.out W3 (n2.trans n3) GB b3)
  go_upto_region 3 with (go_at_call 7; refine hA.out.mono ?_; rintro r w4 h4; obtain ⟨A4, c4, g4, c5, rfl, hn4, hcell4, hc5⟩ := ex_ans h4; clear h4)
  have hcell2 := (n3.trans hn4).cell hcell2
  have nW := (n2.trans n3).trans hn4
  clear hA hasm b3 hW3 n2 n3 hn4
  go_wp2_with fail
  go_ret
  exact ⟨rfl, nW⟩
end Go.Proofs.YtnooabgdcfegeaaDoor
