/-
  Proved here: the instruction of a line, the reference's. Conditions: none.
-/
import Derived.Test.YtmggichckhoomaaDoorLz
import Derived.Test.YtmggichckhoomaaDoorLv1
import Derived.Test.YtmggichckhoomaaDoorLv2
import Derived.Test.YtmggichckhoomaaDoorLv3
import Derived.Test.YtmggichckhoomaaDoorLm
namespace Go.Proofs.YtmggichckhoomaaDoor
open Go.ChangeShapes Go.WideShapes Go.ChangeAt Go.RowKit
set_option linter.unusedVariables false
set_option linter.unusedSimpArgs false
theorem words_len (l : Bs) : (wordsL l).length ≤ l.length + 1 := by
  induction l with
  | nil => exact Nat.le_refl _
  | cons c r ih =>
    simp only [wordsL]
    split
    · simpa using ih
    · split
      · simp
      · rename_i w t e
        rw [e] at ih
        simp at ih ⊢
        omega
theorem words_le (l : Bs) : ∀ p ∈ wordsL l, p.length ≤ l.length := by
  induction l with
  | nil => intro p hp; simp [wordsL] at hp; subst hp; exact Nat.le_refl _
  | cons c r ih =>
    intro p hp
    simp only [wordsL] at hp
    split at hp
    · rcases List.mem_cons.1 hp with rfl | hp
      · exact Nat.zero_le _
      · exact Nat.le_succ_of_le (ih p hp)
    · split at hp
      · obtain rfl := List.mem_singleton.1 hp
        simp
      · rename_i w t e
        rw [e] at ih
        rcases List.mem_cons.1 hp with rfl | hp
        · have := ih w (List.mem_cons_self ..)
          simp; omega
        · exact Nat.le_succ_of_le (ih p (List.mem_cons_of_mem _ hp))
theorem words_get (l : Bs) (k : Nat) : ((wordsL l).getD k []).length ≤ l.length := by
  rw [List.getD_eq_getElem?_getD]
  cases h : (wordsL l)[k]? with
  | none => simp
  | some p => exact words_le l p (List.mem_of_getElem? h)
theorem own_cells {w : World} {B : Nat} {v : Value} {ws : List Bs} (h : w.ownsRow B 9 1 v ws.length (ws.map strV)) (hne : ws ≠ []) :
    ∃ g cap, v = .slice (some ⟨g, 0, none⟩) ws.length cap ∧ B ≤ g ∧ ∀ k, k < ws.length → w.cell? ⟨g, k, none⟩ = some (.string ⟨(ws.getD k []).toArray⟩) := by
  obtain ⟨h1, h2⟩ := h
  rcases h2 with ⟨-, h0⟩ | ⟨g, cap, cur, hv, hB, hg, hc, hm, hs, ht⟩
  · exact absurd (List.length_eq_zero_iff.1 h0) hne
  · refine ⟨g, cap, hv, hB, fun k hk => ?_⟩
    rw [cell_of_row w g k cur _ _ hg]
    have e1 : (cur.toList.take (ws.length * 1))[k]? = cur.toList[k]? := by rw [List.getElem?_take, if_pos (by omega)]
    rw [ht] at e1
    have e2 : cur[k]? = cur.toList[k]? := by simp
    rw [e2, ← e1, List.getElem?_map, List.getElem?_eq_getElem hk, List.getD_eq_getElem?_getD, List.getElem?_eq_getElem hk]
    rfl
theorem rows_nz : ∀ k : Nat, k < 87 → (refRow ((k + 1 : Nat) : Int)).1 ≠ 0 := by decide +kernel
theorem row_nz (op : Int) (h : 1 ≤ op ∧ op ≤ 87) : (refRow op).1 ≠ 0 := by
  have := rows_nz (op.toNat - 1) (by omega)
  rw [show op.toNat - 1 + 1 = op.toNat by omega, Int.toNat_of_nonneg (by omega)] at this
  exact this
theorem try_any (l : Bs) (h : l.length ≤ 1000000) (op : Int) (ho : 1 ≤ op ∧ op ≤ 87) (g cap : Nat) (w : World) (hws : Hid (∀ k, k < (wordsL l).length → w.cell? ⟨g, k, none⟩ = some (.string ⟨((wordsL l).getD k []).toArray⟩))) :
    Calls Tryd.prog 34 #[.int .i64 op, .slice (some ⟨g, 0, none⟩) (wordsL l).length cap] w fun e w' => e = .returned (.agg #[.int .i64 op, .int .i64 (stL (refRow op).1 (wordsL l) 4).2.1, .int .i64 (stL (refRow op).1 (wordsL l) 4).2.2.1, .int .i64 (stL (refRow op).1 (wordsL l) 4).2.2.2.1, .int .i64 (stL (refRow op).1 (wordsL l) 4).2.2.2.2, .bool false, .bool false]) ∧ Nb w w' := by
  have hmax : (wordsL l).length ≤ 1000001 := Nat.le_trans (words_len l) (by omega)
  have hlen : Hid (∀ k, ((wordsL l).getD k []).length ≤ 1000000) := Lib.hid fun k => Nat.le_trans (words_get l k) h
  have HR := fun w => (row_any op w).mono fun _ _ h => (⟨h.1, h.2.b⟩ : _ ∧ _)
  have hz : (refRow op).1 ≠ 0 := row_nz op ho
  obtain ⟨f0, f1, -⟩ := row_ok op
  generalize (refRow op).2.2.2 = x7 at *
  generalize (refRow op).2.2.1 = x3 at *
  generalize (refRow op).2.1 = x2 at *
  generalize (refRow op).1 = f at *
  have hf : f = 1 ∨ f = 2 ∨ f = 3 ∨ f = 4 ∨ f = 5 ∨ f = 6 ∨ f = 7 ∨ f = 8 ∨ f = 9 ∨ f = 10 ∨ f = 11 ∨ f = 12 := by omega
  rcases hf with rfl | rfl | rfl | rfl | rfl | rfl | rfl | rfl | rfl | rfl | rfl | rfl
  · exact try_1 op x2 x3 x7 _ g cap hmax hlen (Lib.hid HR) w hws
  · exact try_2 op x2 x3 x7 _ g cap hmax hlen (Lib.hid HR) w hws
  · exact try_3 op x2 x3 x7 _ g cap hmax hlen (Lib.hid HR) w hws
  · exact try_4 op x2 x3 x7 _ g cap hmax hlen (Lib.hid HR) w hws
  · exact try_5 op x2 x3 x7 _ g cap hmax hlen (Lib.hid HR) w hws
  · exact try_6 op x2 x3 x7 _ g cap hmax hlen (Lib.hid HR) w hws
  · exact try_7 op x2 x3 x7 _ g cap hmax hlen (Lib.hid HR) w hws
  · exact try_8 op x2 x3 x7 _ g cap hmax hlen (Lib.hid HR) w hws
  · exact try_9 op x2 x3 x7 _ g cap hmax hlen (Lib.hid HR) w hws
  · exact try_10 op x2 x3 x7 _ g cap hmax hlen (Lib.hid HR) w hws
  · exact try_11 op x2 x3 x7 _ g cap hmax hlen (Lib.hid HR) w hws
  · exact try_12 op x2 x3 x7 _ g cap hmax hlen (Lib.hid HR) w hws
def flA (m : Nat) : Bool := m % 2 == 1
def flR (m : Nat) : Bool := decide (1 < m)
theorem all_flags {l : Bs} {op : Int} (h : ∀ m : Nat, m < 4 → ¬ Hit l op (flA m) (flR m)) : ∀ aq rl, ¬ Hit l op aq rl := by
  intro aq rl
  cases aq <;> cases rl
  · exact h 0 (by decide)
  · exact h 2 (by decide)
  · exact h 1 (by decide)
  · exact h 3 (by decide)
theorem next_no {l : Bs} {op : Int} {m : Nat} (h : ∀ j : Nat, j < m → ¬ Hit l op (flA j) (flR j)) (hm : ¬ Hit l op (flA m) (flR m)) : ∀ j : Nat, j < m + 1 → ¬ Hit l op (flA j) (flR j) := by
  intro j hj
  rcases Nat.lt_or_ge j m with h1 | h1
  · exact h j h1
  · obtain rfl : j = m := by omega
    exact hm
theorem next_op {l : Bs} {k : Nat} (h : ∀ j : Nat, 1 ≤ j → j < k → ∀ aq rl, ¬ Hit l (j : Int) aq rl) (hk : ∀ aq rl, ¬ Hit l (k : Int) aq rl) : ∀ j : Nat, 1 ≤ j → j < k + 1 → ∀ aq rl, ¬ Hit l (j : Int) aq rl := by
  intro j h1 hj
  rcases Nat.lt_or_ge j k with h2 | h2
  · exact h j h1 h2
  · obtain rfl : j = k := by omega
    exact hk
theorem long_none (l : Bs) (h : 100 < l.length) : PI l = none := by
  cases hp : PI l with
  | none => rfl
  | some i =>
    obtain ⟨hg, ht⟩ := pi_of hp
    have := (text_len hg).1
    rw [ht] at this
    omega
theorem ret_p {a b : I7} {x y : Int} (h1 : a = b) (h2 : x = y) : Ending.returned (.tuple #[instA a, .int .i64 x]) = .returned (.tuple #[instA b, .int .i64 y]) := by rw [h1, h2]
set_option maxRecDepth 100000 in
set_option maxHeartbeats 4000000 in
theorem rparse_long (l : Bs) (h : l.length ≤ 1000000) (h100 : 100 < l.length) (w : World) :
    Calls Tryd.prog 15 #[.string ⟨l.toArray⟩] w fun e w' => e = .returned (.tuple #[instA (PV l), .int .i64 (PE l)]) ∧ Nb w w' := by
  have hp := Lib.hid (long_none l h100)
  go_enter Tryd.func15, Tryd.ntmps15
  go_wp2_with fail
  refine bodyPost_ret (results_rt rfl _ _ w.heap.size _ rfl (run_loadVar_row _ _ _ _ _ _ _ (heap_alloc_new w _) Tryd.underlying33 rfl (by kernel_rfl))) rfl ?_
  exact ⟨ret_p (a := zero7) (x := 30) (by unfold PV; rw [hp.out]; rfl) (by unfold PE; rw [hp.out]; rfl), (Nb.refl _).alloc _⟩
set_option maxRecDepth 100000 in
set_option maxHeartbeats 4000000 in
theorem rparse_short (l : Bs) (h : l.length ≤ 100) (w : World) :
    Calls Tryd.prog 15 #[.string ⟨l.toArray⟩] w fun e w' => e = .returned (.tuple #[instA (PV l), .int .i64 (PE l)]) ∧ Nb w w' := by
  have hh : l.length ≤ 1000000 := by omega
  go_enter Tryd.func15, Tryd.ntmps15
  go_wp2_with fail
  obtain ⟨W1, h1⟩ : ∃ W1, w.alloc (Obj.cells #[.int .i64 0, .int .i64 0, .int .i64 0, .int .i64 0, .int .i64 0, .bool false, .bool false] 33) = W1 := ⟨_, rfl⟩
  have k1 := blk_made w _ h1 rfl
  have m1 : Nb w W1 := by rw [← h1]; exact (Nb.refl _).alloc _
  rw [h1]
  clear h1
  refine (words_any l hh _).mono ?_
  rintro e w2 ⟨⟨v, rfl, hown⟩, hn⟩
  have q2 := m1.trans hn
  replace k1 := hn.block k1
  obtain ⟨g, cap, rfl, -, hcl⟩ := own_cells hown (words_ne l)
  have hcell := Lib.hid hcl
  have hpos : 0 < (wordsL l).length := List.length_pos_iff.2 (words_ne l)
  have hc0 := hcl 0 hpos
  obtain ⟨w0, hw0⟩ : ∃ w0, w0 = (wordsL l).getD 0 [] := ⟨_, rfl⟩
  rw [← hw0] at hc0
  have hw0 := Lib.hid hw0
  rename_i hw0_
  clear hw0_
  clear hcl hown hn m1
  go_wp2_with fail
  go_loopw [5] (fun o wr => ∃ k : Nat, 1 ≤ k ∧ k ≤ 88 ∧ o = .int .i64 k ∧ Hid (∀ j : Nat, 1 ≤ j → j < k → ∀ aq rl, ¬ Hit l (j : Int) aq rl) ∧ wr.heap[w.heap.size]? = some (.cells #[.int .i64 0, .int .i64 0, .int .i64 0, .int .i64 0, .int .i64 0, .bool false, .bool false] 33 (0, 0)) ∧ Nb w2 wr) (fun o _ => 88 - (intOf o).toNat)
  case atStart => exact ⟨1, Nat.le_refl _, by decide, rfl, Lib.hid (fun j h1 h2 => by omega), k1, Nb.refl _⟩
  case round =>
    obtain ⟨k, hk1, hk, rfl, hS, c1, hN⟩ := hrel
    clear k1
    by_cases hlt : k < 88
    · have hle : (k : Int) ≤ 87 := by omega
      clear hk
      go_wp2_with fail
      go_loopw [6] (fun q wr => ∃ (m : Nat) (b : Int), b = m ∧ m ≤ 4 ∧ q = .int .i64 b ∧ Hid (∀ j : Nat, j < m → ¬ Hit l (k : Int) (flA j) (flR j)) ∧ wr.heap[w.heap.size]? = some (.cells #[.int .i64 0, .int .i64 0, .int .i64 0, .int .i64 0, .int .i64 0, .bool false, .bool false] 33 (0, 0)) ∧ Nb w2 wr) (fun q _ => 4 - (intOf q).toNat)
      case atStart => exact ⟨0, 0, rfl, by decide, rfl, Lib.hid (fun j h => by omega), c1, hN⟩
      case round =>
        obtain ⟨m, b, hb, hm, rfl, hF, c2, hM⟩ := hrel
        clear c1 hN
        have hcc := hM.cell hc0
        have hm' : m = 0 ∨ m = 1 ∨ m = 2 ∨ m = 3 ∨ m = 4 := by omega
        rcases hm' with rfl | rfl | rfl | rfl | rfl
        · obtain rfl : b = 0 := by omega
          clear hb hm
          have HN := fun w => rnamed_any (k : Int) (by omega) w0 false false w
          cases hb1 : (nm (k : Int) ++ suf false false == w0) <;> rw [hb1] at HN
          · have HN := Lib.hid HN
            have hb1 := Lib.hid hb1
            go_wp2_with fail
            refine (HN.out _).mono ?_
            rintro e w4 ⟨rfl, hn⟩
            replace c2 := hn.block c2
            have hM1 := hM.trans hn
            go_wp2_with fail
            go_roundw
            case rel => exact ⟨1, _, rfl, by decide, rfl, Lib.hid (next_no (m := 0) hF.out (by intro c; have c1 := c.1; rw [← hw0.out] at c1; have c2 := hb1.out; rw [show nm (k : Int) ++ suf false false = w0 from c1, beq_self_eq_true] at c2; cases c2)), c2, hM1⟩
            case measure => simp [intOf]
          · have HN := Lib.hid HN
            have hb1 := Lib.hid hb1
            go_wp2_with fail
            refine (HN.out _).mono ?_
            rintro e w4 ⟨rfl, hn⟩
            replace c2 := hn.block c2
            have hM1 := hM.trans hn
            go_wp2_with fail
            clear hcc hn
            have HT := Lib.hid (try_any l hh (k : Int) (by omega) g cap w4 (Lib.hid fun j hj => hM1.cell (hcell.out j hj)))
            have HX := Lib.hid (fun w => rtext_any (k : Int) (stL (refRow (k : Int)).1 (wordsL l) 4).2.1 (stL (refRow (k : Int)).1 (wordsL l) 4).2.2.1 (stL (refRow (k : Int)).1 (wordsL l) 4).2.2.2.1 (stL (refRow (k : Int)).1 (wordsL l) 4).2.2.2.2 false false (st_in (refRow (k : Int)).1 (wordsL l) 4).2.2.2.1 (st_in (refRow (k : Int)).1 (wordsL l) 4).2.2.2.2 w)
            have hT := Lib.hid (show textV7 (tryI l (k : Int) false false) = TextV (k : Int) (stL (refRow (k : Int)).1 (wordsL l) 4).2.1 (stL (refRow (k : Int)).1 (wordsL l) 4).2.2.1 (stL (refRow (k : Int)).1 (wordsL l) 4).2.2.2.1 (stL (refRow (k : Int)).1 (wordsL l) 4).2.2.2.2 false false from rfl)
            have hI := Lib.hid (show instA (tryI l (k : Int) false false) = .agg #[.int .i64 (k : Int), .int .i64 (stL (refRow (k : Int)).1 (wordsL l) 4).2.1, .int .i64 (stL (refRow (k : Int)).1 (wordsL l) 4).2.2.1, .int .i64 (stL (refRow (k : Int)).1 (wordsL l) 4).2.2.2.1, .int .i64 (stL (refRow (k : Int)).1 (wordsL l) 4).2.2.2.2, .bool false, .bool false] from rfl)
            generalize (stL (refRow (k : Int)).1 (wordsL l) 4).2.2.2.2 = t4 at *
            generalize (stL (refRow (k : Int)).1 (wordsL l) 4).2.2.2.1 = t3 at *
            generalize (stL (refRow (k : Int)).1 (wordsL l) 4).2.2.1 = t2 at *
            generalize (stL (refRow (k : Int)).1 (wordsL l) 4).2.1 = t1 at *
            generalize TextV (k : Int) t1 t2 t3 t4 false false = T at *
            refine HT.out.mono ?_
            rintro e w5 ⟨rfl, hn⟩
            replace c2 := hn.block c2
            have hM2 := hM1.trans hn
            go_wp2_with fail
            clear hn
            obtain ⟨W6, h6⟩ : ∃ W6, w5.alloc (Obj.cells #[.int .i64 (k : Int), .int .i64 t1, .int .i64 t2, .int .i64 t3, .int .i64 t4, .bool false, .bool false] 33) = W6 := ⟨_, rfl⟩
            have k6 := blk_made w5 _ h6 rfl
            have hn : Nb w5 W6 := by rw [← h6]; exact (Nb.refl _).alloc _
            rw [h6]
            clear h6
            refine (HX.out _).mono ?_
            rintro e w7 ⟨rfl, hn7⟩
            have hn8 := hn.trans hn7
            replace c2 := hn8.block c2
            replace k6 := hn7.block k6
            have hM3 := hM2.trans hn8
            clear hn hn7 hn8
            cases hb2 : (T == l)
            · go_wp2_with fail
              have hb2 := Lib.hid hb2
              exact ⟨⟨1, _, rfl, by decide, rfl, Lib.hid (next_no (m := 0) hF.out (by intro c; have c1 : textV7 (tryI l (k : Int) false false) = l := c.2.1; rw [hT.out] at c1; have c2 := hb2.out; rw [c1, beq_self_eq_true] at c2; cases c2)), c2, hM3⟩, by simp [intOf]⟩
            · cases hb3 : (l == [])
              · obtain ⟨x, p0, p1, p2, p3, p4, p5, p6⟩ := cells7 k6
                obtain ⟨y0, e0, e1, e2, e3, e4, e5, e6⟩ := cells7 c2
                obtain ⟨g0, g1, g2, g3, g4, g5, g6⟩ := marks7 c2
                have hQ := q2.trans hM3
                go_wp2_with fail
                obtain ⟨W3, hW⟩ : ∃ W3, ((((((w7.setCell ⟨w.heap.size, 0, none⟩ (.int .i64 (k : Int))).setCell ⟨w.heap.size, 1, none⟩ (.int .i64 t1)).setCell ⟨w.heap.size, 2, none⟩ (.int .i64 t2)).setCell ⟨w.heap.size, 3, none⟩ (.int .i64 t3)).setCell ⟨w.heap.size, 4, none⟩ (.int .i64 t4)).setCell ⟨w.heap.size, 5, none⟩ (.bool false)).setCell ⟨w.heap.size, 6, none⟩ (.bool false) = W3 := ⟨_, rfl⟩
                have hb4 : W3.heap[w.heap.size]? = some (.cells #[.int .i64 (k : Int), .int .i64 t1, .int .i64 t2, .int .i64 t3, .int .i64 t4, .bool false, .bool false] 33 (0, 0)) := by rw [← hW]; exact set7a c2
                have h4 : Nb w W3 := by rw [← hW]; exact ((((((hQ.setCell (Nat.le_refl _) _).setCell (Nat.le_refl _) _).setCell (Nat.le_refl _) _).setCell (Nat.le_refl _) _).setCell (Nat.le_refl _) _).setCell (Nat.le_refl _) _).setCell (Nat.le_refl _) _
                rw [hW]
                refine bodyPost_ret (results_rt rfl _ _ w.heap.size _ rfl (run_loadVar_row _ _ _ _ _ _ _ hb4 Tryd.underlying33 rfl (by kernel_rfl))) rfl ?_
                have hp : PI l = some (tryI l (k : Int) false false) := hit_pi ⟨by rw [← hw0.out]; exact eq_of_beq hb1.out, by rw [hT.out]; exact eq_of_beq hb2, by intro c; rw [c] at hb3; cases hb3⟩
                refine ⟨?_, h4⟩
                rw [← hI.out]
                exact ret_p (x := 0) (by unfold PV; rw [hp]; rfl) (by unfold PE; rw [hp]; rfl)
              · go_wp2_with fail
                have hb3 := Lib.hid hb3
                exact ⟨⟨1, _, rfl, by decide, rfl, Lib.hid (next_no (m := 0) hF.out (by intro c; exact c.2.2 (eq_of_beq hb3.out))), c2, hM3⟩, by simp [intOf]⟩
        · obtain rfl : b = 1 := by omega
          clear hb hm
          have HN := fun w => rnamed_any (k : Int) (by omega) w0 true false w
          cases hb1 : (nm (k : Int) ++ suf true false == w0) <;> rw [hb1] at HN
          · have HN := Lib.hid HN
            have hb1 := Lib.hid hb1
            go_wp2_with fail
            refine (HN.out _).mono ?_
            rintro e w4 ⟨rfl, hn⟩
            replace c2 := hn.block c2
            have hM1 := hM.trans hn
            go_wp2_with fail
            go_roundw
            case rel => exact ⟨2, _, rfl, by decide, rfl, Lib.hid (next_no (m := 1) hF.out (by intro c; have c1 := c.1; rw [← hw0.out] at c1; have c2 := hb1.out; rw [show nm (k : Int) ++ suf true false = w0 from c1, beq_self_eq_true] at c2; cases c2)), c2, hM1⟩
            case measure => simp [intOf]
          · have HN := Lib.hid HN
            have hb1 := Lib.hid hb1
            go_wp2_with fail
            refine (HN.out _).mono ?_
            rintro e w4 ⟨rfl, hn⟩
            replace c2 := hn.block c2
            have hM1 := hM.trans hn
            go_wp2_with fail
            clear hcc hn
            have HT := Lib.hid (try_any l hh (k : Int) (by omega) g cap w4 (Lib.hid fun j hj => hM1.cell (hcell.out j hj)))
            have HX := Lib.hid (fun w => rtext_any (k : Int) (stL (refRow (k : Int)).1 (wordsL l) 4).2.1 (stL (refRow (k : Int)).1 (wordsL l) 4).2.2.1 (stL (refRow (k : Int)).1 (wordsL l) 4).2.2.2.1 (stL (refRow (k : Int)).1 (wordsL l) 4).2.2.2.2 true false (st_in (refRow (k : Int)).1 (wordsL l) 4).2.2.2.1 (st_in (refRow (k : Int)).1 (wordsL l) 4).2.2.2.2 w)
            have hT := Lib.hid (show textV7 (tryI l (k : Int) true false) = TextV (k : Int) (stL (refRow (k : Int)).1 (wordsL l) 4).2.1 (stL (refRow (k : Int)).1 (wordsL l) 4).2.2.1 (stL (refRow (k : Int)).1 (wordsL l) 4).2.2.2.1 (stL (refRow (k : Int)).1 (wordsL l) 4).2.2.2.2 true false from rfl)
            have hI := Lib.hid (show instA (tryI l (k : Int) true false) = .agg #[.int .i64 (k : Int), .int .i64 (stL (refRow (k : Int)).1 (wordsL l) 4).2.1, .int .i64 (stL (refRow (k : Int)).1 (wordsL l) 4).2.2.1, .int .i64 (stL (refRow (k : Int)).1 (wordsL l) 4).2.2.2.1, .int .i64 (stL (refRow (k : Int)).1 (wordsL l) 4).2.2.2.2, .bool true, .bool false] from rfl)
            generalize (stL (refRow (k : Int)).1 (wordsL l) 4).2.2.2.2 = t4 at *
            generalize (stL (refRow (k : Int)).1 (wordsL l) 4).2.2.2.1 = t3 at *
            generalize (stL (refRow (k : Int)).1 (wordsL l) 4).2.2.1 = t2 at *
            generalize (stL (refRow (k : Int)).1 (wordsL l) 4).2.1 = t1 at *
            generalize TextV (k : Int) t1 t2 t3 t4 true false = T at *
            refine HT.out.mono ?_
            rintro e w5 ⟨rfl, hn⟩
            replace c2 := hn.block c2
            have hM2 := hM1.trans hn
            go_wp2_with fail
            clear hn
            obtain ⟨W6, h6⟩ : ∃ W6, w5.alloc (Obj.cells #[.int .i64 (k : Int), .int .i64 t1, .int .i64 t2, .int .i64 t3, .int .i64 t4, .bool true, .bool false] 33) = W6 := ⟨_, rfl⟩
            have k6 := blk_made w5 _ h6 rfl
            have hn : Nb w5 W6 := by rw [← h6]; exact (Nb.refl _).alloc _
            rw [h6]
            clear h6
            refine (HX.out _).mono ?_
            rintro e w7 ⟨rfl, hn7⟩
            have hn8 := hn.trans hn7
            replace c2 := hn8.block c2
            replace k6 := hn7.block k6
            have hM3 := hM2.trans hn8
            clear hn hn7 hn8
            cases hb2 : (T == l)
            · go_wp2_with fail
              have hb2 := Lib.hid hb2
              exact ⟨⟨2, _, rfl, by decide, rfl, Lib.hid (next_no (m := 1) hF.out (by intro c; have c1 : textV7 (tryI l (k : Int) true false) = l := c.2.1; rw [hT.out] at c1; have c2 := hb2.out; rw [c1, beq_self_eq_true] at c2; cases c2)), c2, hM3⟩, by simp [intOf]⟩
            · cases hb3 : (l == [])
              · obtain ⟨x, p0, p1, p2, p3, p4, p5, p6⟩ := cells7 k6
                obtain ⟨y0, e0, e1, e2, e3, e4, e5, e6⟩ := cells7 c2
                obtain ⟨g0, g1, g2, g3, g4, g5, g6⟩ := marks7 c2
                have hQ := q2.trans hM3
                go_wp2_with fail
                obtain ⟨W3, hW⟩ : ∃ W3, ((((((w7.setCell ⟨w.heap.size, 0, none⟩ (.int .i64 (k : Int))).setCell ⟨w.heap.size, 1, none⟩ (.int .i64 t1)).setCell ⟨w.heap.size, 2, none⟩ (.int .i64 t2)).setCell ⟨w.heap.size, 3, none⟩ (.int .i64 t3)).setCell ⟨w.heap.size, 4, none⟩ (.int .i64 t4)).setCell ⟨w.heap.size, 5, none⟩ (.bool true)).setCell ⟨w.heap.size, 6, none⟩ (.bool false) = W3 := ⟨_, rfl⟩
                have hb4 : W3.heap[w.heap.size]? = some (.cells #[.int .i64 (k : Int), .int .i64 t1, .int .i64 t2, .int .i64 t3, .int .i64 t4, .bool true, .bool false] 33 (0, 0)) := by rw [← hW]; exact set7a c2
                have h4 : Nb w W3 := by rw [← hW]; exact ((((((hQ.setCell (Nat.le_refl _) _).setCell (Nat.le_refl _) _).setCell (Nat.le_refl _) _).setCell (Nat.le_refl _) _).setCell (Nat.le_refl _) _).setCell (Nat.le_refl _) _).setCell (Nat.le_refl _) _
                rw [hW]
                refine bodyPost_ret (results_rt rfl _ _ w.heap.size _ rfl (run_loadVar_row _ _ _ _ _ _ _ hb4 Tryd.underlying33 rfl (by kernel_rfl))) rfl ?_
                have hp : PI l = some (tryI l (k : Int) true false) := hit_pi ⟨by rw [← hw0.out]; exact eq_of_beq hb1.out, by rw [hT.out]; exact eq_of_beq hb2, by intro c; rw [c] at hb3; cases hb3⟩
                refine ⟨?_, h4⟩
                rw [← hI.out]
                exact ret_p (x := 0) (by unfold PV; rw [hp]; rfl) (by unfold PE; rw [hp]; rfl)
              · go_wp2_with fail
                have hb3 := Lib.hid hb3
                exact ⟨⟨2, _, rfl, by decide, rfl, Lib.hid (next_no (m := 1) hF.out (by intro c; exact c.2.2 (eq_of_beq hb3.out))), c2, hM3⟩, by simp [intOf]⟩
        · obtain rfl : b = 2 := by omega
          clear hb hm
          have HN := fun w => rnamed_any (k : Int) (by omega) w0 false true w
          cases hb1 : (nm (k : Int) ++ suf false true == w0) <;> rw [hb1] at HN
          · have HN := Lib.hid HN
            have hb1 := Lib.hid hb1
            go_wp2_with fail
            refine (HN.out _).mono ?_
            rintro e w4 ⟨rfl, hn⟩
            replace c2 := hn.block c2
            have hM1 := hM.trans hn
            go_wp2_with fail
            go_roundw
            case rel => exact ⟨3, _, rfl, by decide, rfl, Lib.hid (next_no (m := 2) hF.out (by intro c; have c1 := c.1; rw [← hw0.out] at c1; have c2 := hb1.out; rw [show nm (k : Int) ++ suf false true = w0 from c1, beq_self_eq_true] at c2; cases c2)), c2, hM1⟩
            case measure => simp [intOf]
          · have HN := Lib.hid HN
            have hb1 := Lib.hid hb1
            go_wp2_with fail
            refine (HN.out _).mono ?_
            rintro e w4 ⟨rfl, hn⟩
            replace c2 := hn.block c2
            have hM1 := hM.trans hn
            go_wp2_with fail
            clear hcc hn
            have HT := Lib.hid (try_any l hh (k : Int) (by omega) g cap w4 (Lib.hid fun j hj => hM1.cell (hcell.out j hj)))
            have HX := Lib.hid (fun w => rtext_any (k : Int) (stL (refRow (k : Int)).1 (wordsL l) 4).2.1 (stL (refRow (k : Int)).1 (wordsL l) 4).2.2.1 (stL (refRow (k : Int)).1 (wordsL l) 4).2.2.2.1 (stL (refRow (k : Int)).1 (wordsL l) 4).2.2.2.2 false true (st_in (refRow (k : Int)).1 (wordsL l) 4).2.2.2.1 (st_in (refRow (k : Int)).1 (wordsL l) 4).2.2.2.2 w)
            have hT := Lib.hid (show textV7 (tryI l (k : Int) false true) = TextV (k : Int) (stL (refRow (k : Int)).1 (wordsL l) 4).2.1 (stL (refRow (k : Int)).1 (wordsL l) 4).2.2.1 (stL (refRow (k : Int)).1 (wordsL l) 4).2.2.2.1 (stL (refRow (k : Int)).1 (wordsL l) 4).2.2.2.2 false true from rfl)
            have hI := Lib.hid (show instA (tryI l (k : Int) false true) = .agg #[.int .i64 (k : Int), .int .i64 (stL (refRow (k : Int)).1 (wordsL l) 4).2.1, .int .i64 (stL (refRow (k : Int)).1 (wordsL l) 4).2.2.1, .int .i64 (stL (refRow (k : Int)).1 (wordsL l) 4).2.2.2.1, .int .i64 (stL (refRow (k : Int)).1 (wordsL l) 4).2.2.2.2, .bool false, .bool true] from rfl)
            generalize (stL (refRow (k : Int)).1 (wordsL l) 4).2.2.2.2 = t4 at *
            generalize (stL (refRow (k : Int)).1 (wordsL l) 4).2.2.2.1 = t3 at *
            generalize (stL (refRow (k : Int)).1 (wordsL l) 4).2.2.1 = t2 at *
            generalize (stL (refRow (k : Int)).1 (wordsL l) 4).2.1 = t1 at *
            generalize TextV (k : Int) t1 t2 t3 t4 false true = T at *
            refine HT.out.mono ?_
            rintro e w5 ⟨rfl, hn⟩
            replace c2 := hn.block c2
            have hM2 := hM1.trans hn
            go_wp2_with fail
            clear hn
            obtain ⟨W6, h6⟩ : ∃ W6, w5.alloc (Obj.cells #[.int .i64 (k : Int), .int .i64 t1, .int .i64 t2, .int .i64 t3, .int .i64 t4, .bool false, .bool true] 33) = W6 := ⟨_, rfl⟩
            have k6 := blk_made w5 _ h6 rfl
            have hn : Nb w5 W6 := by rw [← h6]; exact (Nb.refl _).alloc _
            rw [h6]
            clear h6
            refine (HX.out _).mono ?_
            rintro e w7 ⟨rfl, hn7⟩
            have hn8 := hn.trans hn7
            replace c2 := hn8.block c2
            replace k6 := hn7.block k6
            have hM3 := hM2.trans hn8
            clear hn hn7 hn8
            cases hb2 : (T == l)
            · go_wp2_with fail
              have hb2 := Lib.hid hb2
              exact ⟨⟨3, _, rfl, by decide, rfl, Lib.hid (next_no (m := 2) hF.out (by intro c; have c1 : textV7 (tryI l (k : Int) false true) = l := c.2.1; rw [hT.out] at c1; have c2 := hb2.out; rw [c1, beq_self_eq_true] at c2; cases c2)), c2, hM3⟩, by simp [intOf]⟩
            · cases hb3 : (l == [])
              · obtain ⟨x, p0, p1, p2, p3, p4, p5, p6⟩ := cells7 k6
                obtain ⟨y0, e0, e1, e2, e3, e4, e5, e6⟩ := cells7 c2
                obtain ⟨g0, g1, g2, g3, g4, g5, g6⟩ := marks7 c2
                have hQ := q2.trans hM3
                go_wp2_with fail
                obtain ⟨W3, hW⟩ : ∃ W3, ((((((w7.setCell ⟨w.heap.size, 0, none⟩ (.int .i64 (k : Int))).setCell ⟨w.heap.size, 1, none⟩ (.int .i64 t1)).setCell ⟨w.heap.size, 2, none⟩ (.int .i64 t2)).setCell ⟨w.heap.size, 3, none⟩ (.int .i64 t3)).setCell ⟨w.heap.size, 4, none⟩ (.int .i64 t4)).setCell ⟨w.heap.size, 5, none⟩ (.bool false)).setCell ⟨w.heap.size, 6, none⟩ (.bool true) = W3 := ⟨_, rfl⟩
                have hb4 : W3.heap[w.heap.size]? = some (.cells #[.int .i64 (k : Int), .int .i64 t1, .int .i64 t2, .int .i64 t3, .int .i64 t4, .bool false, .bool true] 33 (0, 0)) := by rw [← hW]; exact set7a c2
                have h4 : Nb w W3 := by rw [← hW]; exact ((((((hQ.setCell (Nat.le_refl _) _).setCell (Nat.le_refl _) _).setCell (Nat.le_refl _) _).setCell (Nat.le_refl _) _).setCell (Nat.le_refl _) _).setCell (Nat.le_refl _) _).setCell (Nat.le_refl _) _
                rw [hW]
                refine bodyPost_ret (results_rt rfl _ _ w.heap.size _ rfl (run_loadVar_row _ _ _ _ _ _ _ hb4 Tryd.underlying33 rfl (by kernel_rfl))) rfl ?_
                have hp : PI l = some (tryI l (k : Int) false true) := hit_pi ⟨by rw [← hw0.out]; exact eq_of_beq hb1.out, by rw [hT.out]; exact eq_of_beq hb2, by intro c; rw [c] at hb3; cases hb3⟩
                refine ⟨?_, h4⟩
                rw [← hI.out]
                exact ret_p (x := 0) (by unfold PV; rw [hp]; rfl) (by unfold PE; rw [hp]; rfl)
              · go_wp2_with fail
                have hb3 := Lib.hid hb3
                exact ⟨⟨3, _, rfl, by decide, rfl, Lib.hid (next_no (m := 2) hF.out (by intro c; exact c.2.2 (eq_of_beq hb3.out))), c2, hM3⟩, by simp [intOf]⟩
        · obtain rfl : b = 3 := by omega
          clear hb hm
          have HN := fun w => rnamed_any (k : Int) (by omega) w0 true true w
          cases hb1 : (nm (k : Int) ++ suf true true == w0) <;> rw [hb1] at HN
          · have HN := Lib.hid HN
            have hb1 := Lib.hid hb1
            go_wp2_with fail
            refine (HN.out _).mono ?_
            rintro e w4 ⟨rfl, hn⟩
            replace c2 := hn.block c2
            have hM1 := hM.trans hn
            go_wp2_with fail
            go_roundw
            case rel => exact ⟨4, _, rfl, by decide, rfl, Lib.hid (next_no (m := 3) hF.out (by intro c; have c1 := c.1; rw [← hw0.out] at c1; have c2 := hb1.out; rw [show nm (k : Int) ++ suf true true = w0 from c1, beq_self_eq_true] at c2; cases c2)), c2, hM1⟩
            case measure => simp [intOf]
          · have HN := Lib.hid HN
            have hb1 := Lib.hid hb1
            go_wp2_with fail
            refine (HN.out _).mono ?_
            rintro e w4 ⟨rfl, hn⟩
            replace c2 := hn.block c2
            have hM1 := hM.trans hn
            go_wp2_with fail
            clear hcc hn
            have HT := Lib.hid (try_any l hh (k : Int) (by omega) g cap w4 (Lib.hid fun j hj => hM1.cell (hcell.out j hj)))
            have HX := Lib.hid (fun w => rtext_any (k : Int) (stL (refRow (k : Int)).1 (wordsL l) 4).2.1 (stL (refRow (k : Int)).1 (wordsL l) 4).2.2.1 (stL (refRow (k : Int)).1 (wordsL l) 4).2.2.2.1 (stL (refRow (k : Int)).1 (wordsL l) 4).2.2.2.2 true true (st_in (refRow (k : Int)).1 (wordsL l) 4).2.2.2.1 (st_in (refRow (k : Int)).1 (wordsL l) 4).2.2.2.2 w)
            have hT := Lib.hid (show textV7 (tryI l (k : Int) true true) = TextV (k : Int) (stL (refRow (k : Int)).1 (wordsL l) 4).2.1 (stL (refRow (k : Int)).1 (wordsL l) 4).2.2.1 (stL (refRow (k : Int)).1 (wordsL l) 4).2.2.2.1 (stL (refRow (k : Int)).1 (wordsL l) 4).2.2.2.2 true true from rfl)
            have hI := Lib.hid (show instA (tryI l (k : Int) true true) = .agg #[.int .i64 (k : Int), .int .i64 (stL (refRow (k : Int)).1 (wordsL l) 4).2.1, .int .i64 (stL (refRow (k : Int)).1 (wordsL l) 4).2.2.1, .int .i64 (stL (refRow (k : Int)).1 (wordsL l) 4).2.2.2.1, .int .i64 (stL (refRow (k : Int)).1 (wordsL l) 4).2.2.2.2, .bool true, .bool true] from rfl)
            generalize (stL (refRow (k : Int)).1 (wordsL l) 4).2.2.2.2 = t4 at *
            generalize (stL (refRow (k : Int)).1 (wordsL l) 4).2.2.2.1 = t3 at *
            generalize (stL (refRow (k : Int)).1 (wordsL l) 4).2.2.1 = t2 at *
            generalize (stL (refRow (k : Int)).1 (wordsL l) 4).2.1 = t1 at *
            generalize TextV (k : Int) t1 t2 t3 t4 true true = T at *
            refine HT.out.mono ?_
            rintro e w5 ⟨rfl, hn⟩
            replace c2 := hn.block c2
            have hM2 := hM1.trans hn
            go_wp2_with fail
            clear hn
            obtain ⟨W6, h6⟩ : ∃ W6, w5.alloc (Obj.cells #[.int .i64 (k : Int), .int .i64 t1, .int .i64 t2, .int .i64 t3, .int .i64 t4, .bool true, .bool true] 33) = W6 := ⟨_, rfl⟩
            have k6 := blk_made w5 _ h6 rfl
            have hn : Nb w5 W6 := by rw [← h6]; exact (Nb.refl _).alloc _
            rw [h6]
            clear h6
            refine (HX.out _).mono ?_
            rintro e w7 ⟨rfl, hn7⟩
            have hn8 := hn.trans hn7
            replace c2 := hn8.block c2
            replace k6 := hn7.block k6
            have hM3 := hM2.trans hn8
            clear hn hn7 hn8
            cases hb2 : (T == l)
            · go_wp2_with fail
              have hb2 := Lib.hid hb2
              exact ⟨⟨4, _, rfl, by decide, rfl, Lib.hid (next_no (m := 3) hF.out (by intro c; have c1 : textV7 (tryI l (k : Int) true true) = l := c.2.1; rw [hT.out] at c1; have c2 := hb2.out; rw [c1, beq_self_eq_true] at c2; cases c2)), c2, hM3⟩, by simp [intOf]⟩
            · cases hb3 : (l == [])
              · obtain ⟨x, p0, p1, p2, p3, p4, p5, p6⟩ := cells7 k6
                obtain ⟨y0, e0, e1, e2, e3, e4, e5, e6⟩ := cells7 c2
                obtain ⟨g0, g1, g2, g3, g4, g5, g6⟩ := marks7 c2
                have hQ := q2.trans hM3
                go_wp2_with fail
                obtain ⟨W3, hW⟩ : ∃ W3, ((((((w7.setCell ⟨w.heap.size, 0, none⟩ (.int .i64 (k : Int))).setCell ⟨w.heap.size, 1, none⟩ (.int .i64 t1)).setCell ⟨w.heap.size, 2, none⟩ (.int .i64 t2)).setCell ⟨w.heap.size, 3, none⟩ (.int .i64 t3)).setCell ⟨w.heap.size, 4, none⟩ (.int .i64 t4)).setCell ⟨w.heap.size, 5, none⟩ (.bool true)).setCell ⟨w.heap.size, 6, none⟩ (.bool true) = W3 := ⟨_, rfl⟩
                have hb4 : W3.heap[w.heap.size]? = some (.cells #[.int .i64 (k : Int), .int .i64 t1, .int .i64 t2, .int .i64 t3, .int .i64 t4, .bool true, .bool true] 33 (0, 0)) := by rw [← hW]; exact set7a c2
                have h4 : Nb w W3 := by rw [← hW]; exact ((((((hQ.setCell (Nat.le_refl _) _).setCell (Nat.le_refl _) _).setCell (Nat.le_refl _) _).setCell (Nat.le_refl _) _).setCell (Nat.le_refl _) _).setCell (Nat.le_refl _) _).setCell (Nat.le_refl _) _
                rw [hW]
                refine bodyPost_ret (results_rt rfl _ _ w.heap.size _ rfl (run_loadVar_row _ _ _ _ _ _ _ hb4 Tryd.underlying33 rfl (by kernel_rfl))) rfl ?_
                have hp : PI l = some (tryI l (k : Int) true true) := hit_pi ⟨by rw [← hw0.out]; exact eq_of_beq hb1.out, by rw [hT.out]; exact eq_of_beq hb2, by intro c; rw [c] at hb3; cases hb3⟩
                refine ⟨?_, h4⟩
                rw [← hI.out]
                exact ret_p (x := 0) (by unfold PV; rw [hp]; rfl) (by unfold PE; rw [hp]; rfl)
              · go_wp2_with fail
                have hb3 := Lib.hid hb3
                exact ⟨⟨4, _, rfl, by decide, rfl, Lib.hid (next_no (m := 3) hF.out (by intro c; exact c.2.2 (eq_of_beq hb3.out))), c2, hM3⟩, by simp [intOf]⟩
        · obtain rfl : b = 4 := by omega
          clear hb hm
          have hA := Lib.hid (all_flags hF.out)
          go_wp2_with fail
          exact ⟨⟨k + 1, by omega, by omega, rfl, Lib.hid (next_op hS.out hA.out), c2, hM⟩, by simp [intOf]; omega⟩
    · obtain rfl : k = 88 := by omega
      have hp := Lib.hid (no_hit (l := l) (fun j h1 h2 => hS.out j h1 (by omega)))
      have hQ := q2.trans hN
      clear hlt hk
      obtain ⟨y0, e0, e1, e2, e3, e4, e5, e6⟩ := cells7 c1
      obtain ⟨g0, g1, g2, g3, g4, g5, g6⟩ := marks7 c1
      go_wp2_with fail
      obtain ⟨W3, hW⟩ : ∃ W3, ((((((wr.setCell ⟨w.heap.size, 0, none⟩ (.int .i64 0)).setCell ⟨w.heap.size, 1, none⟩ (.int .i64 0)).setCell ⟨w.heap.size, 2, none⟩ (.int .i64 0)).setCell ⟨w.heap.size, 3, none⟩ (.int .i64 0)).setCell ⟨w.heap.size, 4, none⟩ (.int .i64 0)).setCell ⟨w.heap.size, 5, none⟩ (.bool false)).setCell ⟨w.heap.size, 6, none⟩ (.bool false) = W3 := ⟨_, rfl⟩
      have hb3 : W3.heap[w.heap.size]? = some (.cells #[.int .i64 0, .int .i64 0, .int .i64 0, .int .i64 0, .int .i64 0, .bool false, .bool false] 33 (0, 0)) := by rw [← hW]; exact set7a c1
      have h4 : Nb w W3 := by rw [← hW]; exact ((((((hQ.setCell (Nat.le_refl _) _).setCell (Nat.le_refl _) _).setCell (Nat.le_refl _) _).setCell (Nat.le_refl _) _).setCell (Nat.le_refl _) _).setCell (Nat.le_refl _) _).setCell (Nat.le_refl _) _
      rw [hW]
      refine bodyPost_ret (results_rt rfl _ _ w.heap.size _ rfl (run_loadVar_row _ _ _ _ _ _ _ hb3 Tryd.underlying33 rfl (by kernel_rfl))) rfl ?_
      exact ⟨ret_p (a := zero7) (x := 30) (by unfold PV; rw [hp.out]; rfl) (by unfold PE; rw [hp.out]; rfl), h4⟩
theorem rparse_any (l : Bs) (h : l.length ≤ 1000000) (w : World) :
    Calls Tryd.prog 15 #[.string ⟨l.toArray⟩] w fun e w' => e = .returned (.tuple #[instA (PV l), .int .i64 (PE l)]) ∧ Nb w w' := by
  by_cases h1 : 100 < l.length
  · exact rparse_long l h h1 w
  · exact rparse_short l (by omega) w
end Go.Proofs.YtmggichckhoomaaDoor
