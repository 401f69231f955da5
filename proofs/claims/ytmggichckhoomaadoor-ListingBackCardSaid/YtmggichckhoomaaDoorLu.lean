/-
  Proved here: the words of a text, and a name with what is behind it, the reference's. Conditions: none.
-/
import Derived.Test.YtmggichckhoomaaDoorLt
import Derived.Test.YtmggichckhoomaaDoorLl
import Derived.Laws.AppendOwn
import Derived.Laws.OwnMore
import Derived.Deep.AppendLies
namespace Go.Proofs.YtmggichckhoomaaDoor
open Go.ChangeShapes Go.WideShapes Go.ChangeAt Go.RowKit
set_option linter.unusedVariables false
set_option linter.unusedSimpArgs false
/-- The parts between single blanks. -/
def wordsL : Bs → List Bs
  | [] => [[]]
  | c :: r => if c = 32 then [] :: wordsL r else match wordsL r with
    | [] => [[c]]
    | w :: t => (c :: w) :: t
theorem words_ne (l : Bs) : wordsL l ≠ [] := by
  cases l with
  | nil => simp [wordsL]
  | cons c r =>
    simp only [wordsL]
    split
    · simp
    · split <;> simp
theorem words_no (a : Bs) (h : 32 ∉ a) : wordsL a = [a] := by
  induction a with
  | nil => rfl
  | cons c r ih =>
    have hc : ¬ c = 32 := fun e => h (by rw [e]; exact List.mem_cons_self ..)
    have hr : 32 ∉ r := fun e => h (List.mem_cons_of_mem _ e)
    simp only [wordsL]
    rw [if_neg hc, ih hr]
theorem words_at (a b : Bs) (h : 32 ∉ a) : wordsL (a ++ 32 :: b) = a :: wordsL b := by
  induction a with
  | nil => simp [wordsL]
  | cons c r ih =>
    have hc : ¬ c = 32 := fun e => h (by rw [e]; exact List.mem_cons_self ..)
    have hr : 32 ∉ r := fun e => h (List.mem_cons_of_mem _ e)
    simp only [List.cons_append, wordsL]
    rw [if_neg hc, ih hr]
theorem words_piece (a T : Bs) (h : 32 ∉ a) (hT : T = [] ∨ ∃ r, T = 32 :: r) : wordsL (a ++ T) = a :: (if T = [] then [] else wordsL (T.drop 1)) := by
  rcases hT with rfl | ⟨r, rfl⟩
  · rw [List.append_nil, words_no a h, if_pos rfl]
  · rw [words_at a r h, if_neg (by simp)]; rfl
/-- What the loop keeps: the words before place f are gathered, and no blank stands from f to k. -/
def WR (l : Bs) (f k : Nat) (ws : List Bs) : Prop := f ≤ k ∧ ws.length ≤ f ∧ ((k ≤ l.length ∧ 32 ∉ (l.drop f).take (k - f) ∧ ws ++ wordsL (l.drop f) = wordsL l) ∨ (k = l.length + 1 ∧ ws = wordsL l))
theorem wr_start (l : Bs) : WR l 0 0 [] := ⟨Nat.le_refl _, Nat.le_refl _, Or.inl ⟨Nat.zero_le _, by simp, rfl⟩⟩
theorem wr_hit (l : Bs) (f k : Nat) (ws : List Bs) (h : WR l f k ws) (hk : k < l.length) (hc : l[k] = 32) : WR l (k + 1) (k + 1) (ws ++ [(l.drop f).take (k - f)]) := by
  obtain ⟨h1, h2, h3⟩ := h
  rcases h3 with ⟨h4, h5, h6⟩ | ⟨h4, -⟩
  · refine ⟨Nat.le_refl _, by simp; omega, Or.inl ⟨hk, by simp, ?_⟩⟩
    have e : l.drop f = (l.drop f).take (k - f) ++ 32 :: l.drop (k + 1) := by
      have e1 : (l.drop f).drop (k - f) = l.drop k := by rw [List.drop_drop]; congr 1; omega
      rw [← hc, ← List.drop_eq_getElem_cons hk, ← e1, List.take_append_drop]
    rw [← h6]
    conv => rhs; rw [e]
    rw [words_at _ _ h5]
    simp
  · omega
theorem wr_miss (l : Bs) (f k : Nat) (ws : List Bs) (h : WR l f k ws) (hk : k < l.length) (hc : l[k] ≠ 32) : WR l f (k + 1) ws := by
  obtain ⟨h1, h2, h3⟩ := h
  rcases h3 with ⟨h4, h5, h6⟩ | ⟨h4, -⟩
  · refine ⟨Nat.le_succ_of_le h1, h2, Or.inl ⟨hk, ?_, h6⟩⟩
    intro hm
    have e2 : (l.drop f).take (k + 1 - f) = (l.drop f).take (k - f) ++ [l[k]] := by
      have hkf : k + 1 - f = (k - f) + 1 := by omega
      rw [hkf, List.take_add_one]
      congr 1
      rw [List.getElem?_drop, show f + (k - f) = k by omega, List.getElem?_eq_getElem hk]
      rfl
    rw [e2] at hm
    rcases List.mem_append.1 hm with hm | hm
    · exact h5 hm
    · exact hc (List.mem_singleton.1 hm).symm
  · omega
theorem wr_end (l : Bs) (f : Nat) (ws : List Bs) (h : WR l f l.length ws) : WR l (l.length + 1) (l.length + 1) (ws ++ [(l.drop f).take (l.length - f)]) := by
  obtain ⟨h1, h2, h3⟩ := h
  rcases h3 with ⟨h4, h5, h6⟩ | ⟨h4, -⟩
  · refine ⟨Nat.le_refl _, by simp; omega, Or.inr ⟨rfl, ?_⟩⟩
    have e : (l.drop f).take (l.length - f) = l.drop f := List.take_of_length_le (by simp)
    rw [e] at h5 ⊢
    rw [← h6, words_no _ h5]
  · omega
theorem wr_done (l : Bs) (f : Nat) (ws : List Bs) (h : WR l f (l.length + 1) ws) : ws = wordsL l := by
  obtain ⟨h1, h2, h3⟩ := h
  rcases h3 with ⟨h4, -⟩ | ⟨-, h⟩
  · omega
  · exact h
theorem ret_b {a b : Bool} (h : a = b) : Ending.returned (.bool a) = .returned (.bool b) := by rw [h]
def strV (l : Bs) : Value := .string ⟨l.toArray⟩
set_option maxRecDepth 100000 in
set_option maxHeartbeats 1000000 in
theorem rnamed_any (op : Int) (v0 : -9223372036854775808 ≤ op) (wl : Bs) (aq rl : Bool) (w : World) :
    Calls Tryd.prog 33 #[.int .i64 op, .string ⟨wl.toArray⟩, .bool aq, .bool rl] w fun e w' => e = .returned (.bool (nm op ++ suf aq rl == wl)) ∧ Nb w w' := by
  have HN := Lib.hid (fun w => name_any op v0 w)
  have hl : (nm op).length ≤ 14 := by
    by_cases ho : 1 ≤ op ∧ op ≤ 87
    · have := (name_no op ho false false).2.2.1; simp [suf] at this; exact this
    · unfold nm; rw [if_neg ho]; decide
  generalize nm op = N at *
  go_enter Tryd.func33, Tryd.ntmps33
  cases aq <;> cases rl
  · go_wp2_with fail
    refine (HN.out _).mono ?_
    rintro e w1 ⟨rfl, hn⟩
    go_wp2_with fail
    go_ret
    exact ⟨ret_b (by rw [show N ++ suf false false = N from List.append_nil N]), hn⟩
  all_goals
    go_wp2_with fail
    refine (HN.out _).mono ?_
    rintro e w1 ⟨rfl, hn⟩
    go_wp2_with fail
    go_ret
    exact ⟨ret_b (by rw [ByteArray.mk_append_mk]; simp [suf, go_sem]), hn⟩
theorem info9 : (Tryd.prog.info? 9).map (fun i => (i.zero, i.size, i.bytes)) = some (some (.string ByteArray.empty), 1, 16) := by kernel_rfl
theorem parts9 : ∃ i, Tryd.prog.info? 9 = some i ∧ i.zero = some (.string ByteArray.empty) ∧ i.size = 1 ∧ i.bytes = 16 := by
  have h := info9
  cases hq : Tryd.prog.info? 9 with
  | none => rw [hq] at h; cases h
  | some i =>
    rw [hq] at h
    simp only [Option.map_some, Option.some.injEq, Prod.mk.injEq] at h
    exact ⟨i, rfl, h.1, h.2.1, h.2.2⟩
theorem one_news9 (w : World) (v : Value) : ∀ j u, [v][j]? = some u → (w.alloc (.cells #[v] 9)).cell? ((⟨w.heap.size, 0, none⟩ : Addr).add j) = some u :=
  World.news_of_block (cs := #[v]) (t := 9) (fr := (0, 0)) (heap_alloc_new w _)
theorem one_cell9 (b : ByteArray) : ∀ u ∈ [Value.string b], u.oneCell' = true := fun u hu => by simp at hu; subst hu; rfl
theorem own_grown9 {w wr w1 : World} {v : Value} {n : Nat} {xs : List Value} (hN : Nb w wr) (x : Value) (hown : wr.ownsRow w.heap.size 9 1 v n xs)
    (hg : (wr.alloc (.cells #[x] 9)).grownBy w1 v.ownBlock) : Nb w w1 :=
  Below.grown (hN.alloc _) hg (by have := hN.size; simp; omega) (fun k hk => (hown.lt k hk).1)
theorem ext_list (l : Bs) (f k : Nat) : (ByteArray.extract ⟨l.toArray⟩ f k) = ⟨((l.drop f).take (k - f)).toArray⟩ := by
  rw [ByteArray.extract_mk]
  first | done | simp
set_option maxRecDepth 100000 in
set_option maxHeartbeats 4000000 in
theorem words_any (l : Bs) (hl : l.length ≤ 1000000) (w : World) :
    Calls Tryd.prog 32 #[.string ⟨l.toArray⟩] w fun e w' => (∃ v : Value, e = .returned v ∧ w'.ownsRow w.heap.size 9 1 v (wordsL l).length ((wordsL l).map strV)) ∧ Nb w w' := by
  obtain ⟨i0, hi, hz0, hz1, hz2⟩ := parts9
  go_enter Tryd.func32, Tryd.ntmps32
  go_wp2_with fail
  go_loopw [3, 4, 5] (fun o f i wr => ∃ (k g : Nat) (ws : List Bs), k ≤ l.length + 1 ∧ g ≤ k ∧ ws.length ≤ g ∧ f = .int .i64 g ∧ i = .int .i64 k ∧ Hid (WR l g k ws) ∧ wr.ownsRow w.heap.size 9 1 o ws.length (ws.map strV) ∧ Nb w wr) (fun _ _ i _ => l.length + 1 - (intOf i).toNat)
  case atStart => exact ⟨0, 0, [], Nat.zero_le _, Nat.le_refl _, Nat.le_refl _, rfl, rfl, Lib.hid (wr_start l), World.ownsRow_nil _ _ _ _, Nb.refl _⟩
  case round =>
    obtain ⟨k, g, ws, hk, hg, hw, rfl, rfl, hR, hown, hN⟩ := hrel
    by_cases hlt : k < l.length
    · have e1 : ((k : Int) == (l.length : Int)) = false := beq_eq_false_iff_ne.2 (by omega)
      obtain ⟨x, hxr, hx, hc, hm⟩ : ∃ x : Nat, x < 256 ∧ (∀ p, ((⟨l.toArray⟩ : ByteArray)[k]'p).toNat = x) ∧ Hid (x = 32 → WR l (k + 1) (k + 1) (ws ++ [(l.drop g).take (k - g)])) ∧ Hid (x ≠ 32 → WR l g (k + 1) ws) :=
        ⟨l[k].toNat, l[k].toNat_lt, data_at l k hlt, Lib.hid fun h => wr_hit l g k ws hR.out hlt (UInt8.toNat_inj.1 h), Lib.hid fun h => wr_miss l g k ws hR.out hlt (fun e => h (by rw [e]; rfl))⟩
      clear hk
      by_cases c : (x : Int) = 32
      · have c' : ((x : Int) == 32) = true := by rw [c]; rfl
        clear c
        go_wp2_with (at_builtin; refine wpList_append_own _ rfl _ _ 66 rfl w.heap.size 9 i0 _ 1 16 Tryd.underlying66 hi hz0 hz1 hz2 rfl (by decide) _ _ _ rfl (hown.alloc _) ⟨wr.heap.size, 0, none⟩ 1 1 [.string (ByteArray.extract ⟨l.toArray⟩ g k)] rfl rfl ?c1 ?c2 ?c3 ?c4 ?c5 ?_)
        case c1 => exact one_news9 wr _
        case c2 => exact one_cell9 _
        case c3 => unfold maxLen; omega
        case c4 => omega
        case c5 => have := hN.size; simp; omega
        intro v' w1 hown' hgrow _
        have hN1 := own_grown9 hN _ hown hgrow
        have hown2 : w1.ownsRow w.heap.size 9 1 v' (ws ++ [(l.drop g).take (k - g)]).length ((ws ++ [(l.drop g).take (k - g)]).map strV) := by
          rw [List.length_append, List.map_append]
          rw [ext_list] at hown'
          exact hown'
        clear hown' hgrow hown hN
        go_wp2_with fail
        exact ⟨⟨k + 1, k + 1, _, by omega, Nat.le_refl _, by have := (hc.out (by have := eq_of_beq c'; omega)).2.1; exact this, rfl, rfl, Lib.hid (hc.out (by have := eq_of_beq c'; omega)), hown2, hN1⟩, by simp [intOf]; omega⟩
      · have c' : ((x : Int) == 32) = false := beq_eq_false_iff_ne.2 c
        go_wp2_with fail
        exact ⟨⟨k + 1, g, ws, by omega, by omega, hw, rfl, rfl, Lib.hid (hm.out (by omega)), hown, hN⟩, by simp [intOf]; omega⟩
    · by_cases he : k = l.length
      · subst he
        have hc := Lib.hid (wr_end l g ws hR.out)
        clear hk hlt
        go_wp2_with (at_builtin; refine wpList_append_own _ rfl _ _ 66 rfl w.heap.size 9 i0 _ 1 16 Tryd.underlying66 hi hz0 hz1 hz2 rfl (by decide) _ _ _ rfl (hown.alloc _) ⟨wr.heap.size, 0, none⟩ 1 1 [.string (ByteArray.extract ⟨l.toArray⟩ g l.length)] rfl rfl ?c1 ?c2 ?c3 ?c4 ?c5 ?_)
        case c1 => exact one_news9 wr _
        case c2 => exact one_cell9 _
        case c3 => unfold maxLen; omega
        case c4 => omega
        case c5 => have := hN.size; simp; omega
        intro v' w1 hown' hgrow _
        have hN1 := own_grown9 hN _ hown hgrow
        have hown2 : w1.ownsRow w.heap.size 9 1 v' (ws ++ [(l.drop g).take (l.length - g)]).length ((ws ++ [(l.drop g).take (l.length - g)]).map strV) := by
          rw [List.length_append, List.map_append]
          rw [ext_list] at hown'
          exact hown'
        clear hown' hgrow hown hN
        go_wp2_with fail
        exact ⟨⟨l.length + 1, l.length + 1, _, Nat.le_refl _, Nat.le_refl _, hc.out.2.1, rfl, rfl, hc, hown2, hN1⟩, by simp [intOf]⟩
      · have hkk : k = l.length + 1 := by omega
        subst hkk
        have hd := Lib.hid (wr_done l g ws hR.out)
        clear hk hlt he
        go_wp2_with fail
        go_ret
        refine ⟨⟨_, rfl, ?_⟩, hN⟩
        rw [← hd.out]; exact hown
end Go.Proofs.YtmggichckhoomaaDoor
