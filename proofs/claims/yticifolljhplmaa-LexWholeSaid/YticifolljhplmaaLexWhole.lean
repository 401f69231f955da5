/-
  Proved here: words stand by lex at their places, one behind the other; what is between them begins no word. No condition.
-/
import Derived.Test.YticifolljhplmaaKp
import Derived.Test.YticifolljhplmaaKr
import Derived.LoopN
import Derived.Laws.BytesArg
namespace Go.Proofs.Yticifolljhplmaa.lexWhole
open Go.ChangeShapes Go.WideShapes Go.ChangeAt Go.RowKit
set_option linter.unusedVariables false
set_option linter.unusedSimpArgs false
/-- Where a round stands: the words from here on are those that are left. -/
def At (xs : Bs) (ts : List Tk) (k a : Nat) : Prop := (k ≤ ts.length ∧ a ≤ xs.length ∧ TT (xs.drop a) a = .inr (ts.drop k)) ∨ (k = ts.length + 1 ∧ a = xs.length)
abbrev txS (t : Tk) : Bs := if t.1 = 3 then 39 :: t.2.2.1 else t.2.2.1
theorem whole_step {xs : Bs} {ts : List Tk} {k a : Nat} {t : Tk} (h : At xs ts k a) (ht : (ts ++ [endT xs])[k]? = some t) :
    a ≤ t.2.1 ∧ t.2.1 + (txS t).length ≤ xs.length ∧ (xs.drop t.2.1).take (txS t).length = txS t ∧ (t.1 = 5 ↔ k = ts.length) ∧ TT ((xs.drop a).take (t.2.1 - a)) 0 = .inr [] ∧ At xs ts (k + 1) (t.2.1 + (txS t).length) := by
  have hk : k < (ts ++ [endT xs]).length := by
    by_cases hh : k < (ts ++ [endT xs]).length
    · exact hh
    · rw [List.getElem?_eq_none (by omega)] at ht; cases ht
  rw [List.length_append, List.length_singleton] at hk
  rcases h with ⟨h1, h2, h3⟩ | ⟨h1, h2⟩
  · by_cases hl : k < ts.length
    · rw [List.getElem?_append_left hl] at ht
      have hd : ts.drop k = t :: ts.drop (k + 1) := by
        rw [List.drop_eq_getElem_cons hl]
        rw [List.getElem?_eq_getElem hl] at ht
        rw [Option.some.inj ht]
      rw [hd] at h3
      obtain ⟨m, e1, e2, e3, e4, e5, e6⟩ := tt_first h3
      rw [List.length_drop] at e3
      rw [List.drop_drop] at e4
      have hS : txS t = (xs.drop (a + btw (xs.drop a) false)).take m := e4.symm
      have hm : (txS t).length = m := by rw [hS, List.length_take, List.length_drop]; omega
      refine ⟨by omega, by omega, ?_, ?_, ?_, .inl ⟨by omega, by omega, ?_⟩⟩
      · rw [hm, e1]; exact hS.symm
      · constructor
        · intro h; omega
        · intro h; omega
      · rw [e1, show a + btw (xs.drop a) false - a = btw (xs.drop a) false by omega]
        exact tt_between _
      · rw [hm, e1]
        rw [List.drop_drop] at e6
        rw [show a + btw (xs.drop a) false + m = a + (btw (xs.drop a) false + m) by omega, ← e6]
        congr 1
        omega
    · obtain rfl : k = ts.length := by omega
      rw [List.getElem?_append_right (Nat.le_refl _), Nat.sub_self] at ht
      obtain rfl : endT xs = t := by simpa using ht
      rw [List.drop_length] at h3
      have hb := tt_last h3
      rw [List.length_drop] at hb
      have e0 : txS (endT xs) = [] := rfl
      have e1 : (endT xs).2.1 = xs.length := rfl
      have e2 : (endT xs).1 = 5 := rfl
      rw [e0, e1, e2]
      refine ⟨h2, by simp, rfl, by simp, ?_, .inr ⟨rfl, by simp⟩⟩
      rw [← hb]
      exact tt_between _
  · omega
theorem TA_sub {l : Bs} (hl : l.length ≤ 3000) (h : TT l 0 = .inr []) : TA l = ([endT l], 0, true) := by
  unfold TA
  rw [if_neg (by omega), h]
  rfl
theorem sub_src {w : World} {ad : Addr} {xs : Bs} {a n : Nat} (h : SrcB w (some ad) xs) (hn : a + n ≤ xs.length) : SrcB w (some (ad.add a)) ((xs.drop a).take n) := by
  intro h0
  rw [List.length_take, List.length_drop] at h0
  obtain ⟨ad', hA, hc⟩ := h (by omega)
  obtain rfl := Option.some.inj hA
  refine ⟨_, rfl, fun j c hj => ?_⟩
  rw [Go.Deep.add_add]
  rw [List.getElem?_take] at hj
  split at hj
  · rw [List.getElem?_drop] at hj
    exact hc _ _ hj
  · cases hj
set_option maxRecDepth 100000 in
set_option maxHeartbeats 4000000 in
theorem main (ad : Addr) (cap : Nat) (xs : Bs) (ts : List Tk) (hx : xs.length ≤ 3000) (hc : xs.length ≤ cap) (w : World) (hS : Hid (SrcB w (some ad) xs)) (hT : TT xs 0 = .inr ts) :
    Calls Try.prog 6 #[.slice (some ad) xs.length cap] w fun e w' => e = .returned (.bool true) ∧ Nb w w' := by
  have hTA : TA xs = (ts ++ [endT xs], 0, true) := by unfold TA; rw [if_neg (by omega), hT]
  have key := Lib.hid (tokens_any (some ad) cap xs hc (by omega) w hS.out)
  have h0 : At xs ts 0 0 := .inl ⟨Nat.zero_le _, Nat.zero_le _, by rw [List.drop_zero, List.drop_zero]; exact hT⟩
  have h0 := Lib.hid h0
  have hTA := Lib.hid hTA
  have hle : ¬ (3000 : Int) < (xs.length : Int) := by omega
  clear hT
  go_enter Try.func6, Try.ntmps6
  go_upto_region 4 with (go_at_call 18; refine (key.out).mono ?_; rintro e w1 ⟨v1, rfl, n1, o1⟩; rw [hTA.out] at o1 ⊢)
  obtain ⟨A1, cap1, rfl, hcap1, hrow⟩ := row_own o1
  have hln : (ts ++ [endT xs]).length ≤ 9223372036854775807 := by
    rcases o1.2 with ⟨-, hn⟩ | ⟨g, c2, cur, -, -, -, hc2, hm2, -⟩
    · simp at hn
    · unfold maxLen at hm2
      omega
  clear o1 hTA key
  have hrow := Lib.hid hrow
  have hSt := Lib.hid (fun k a t (h : At xs ts k a) (ht : (ts ++ [endT xs])[k]? = some t) => whole_step h ht)
  have hEnd : ∀ a, At xs ts (ts ++ [endT xs]).length a → a = xs.length := by
    intro a h
    rcases h with ⟨h, -, -⟩ | ⟨-, h⟩
    · rw [List.length_append, List.length_singleton] at h; omega
    · exact h
  have hEnd := Lib.hid hEnd
  have hlt0 : 1 ≤ (ts ++ [endT xs]).length := by simp
  have hl1 := Lib.hid (show (ts ++ [endT xs]).length = ts.length + 1 by simp)
  generalize ts ++ [endT xs] = L at *
  go_upto_region 7 with (fail)
  go_wp2_with fail
  go_loopw [6, 47] (fun sa si wr => ∃ (k a : Nat), k ≤ L.length ∧ sa = .int .i64 a ∧ si = .int .i64 k ∧ Hid (At xs ts k a) ∧ Nb w1 wr) (fun _ si _ => L.length - (intOf si).toNat)
  case atStart => exact ⟨0, 0, Nat.zero_le _, rfl, rfl, h0, Nb.refl _⟩
  case round =>
    obtain ⟨k, a, hk, rfl, rfl, hat, hN⟩ := hrel
    by_cases hlt : k < L.length
    · have hlt2 : (k : Int) < (L.length : Int) := by omega
      obtain ⟨⟨kd, p, tx, v⟩, ht⟩ : ∃ t, L[k]? = some t := ⟨_, List.getElem?_eq_getElem hlt⟩
      obtain ⟨g, o, rfl, c0, c1, c2, c3⟩ := hrow.out k _ ht
      obtain ⟨f1, f2, f3, f4, f5, f6⟩ := hSt.out k a _ hat.out ht
      clear ht hat
      simp only [] at c0 c1 c2 c3 f1 f2 f3 f4 f5 f6
      replace c0 := hN.cell c0
      replace c1 := hN.cell c1
      replace c2 := hN.cell c2
      replace c3 := hN.cell c3
      go_upto_region 10 with (fail)
      obtain ⟨W2, hW⟩ : ∃ W2, wr.alloc (Obj.cells (tkC kd p tx v) 47) = W2 := ⟨_, rfl⟩
      have n2 : Nb w1 W2 := by rw [← hW]; exact hN.alloc _
      have b2 : W2.heap[wr.heap.size]? = some (.cells (tkC kd p tx v) 47 (0, 0)) := by rw [← hW]; exact new_blk wr _ rfl
      rw [hW]
      clear hW c0 c1 c2 c3 hN
      obtain ⟨⟨c0, c1, c2, c3⟩, -⟩ := tk4 b2
      obtain ⟨b, h5a⟩ : ∃ b, (kd == 5) = b := ⟨_, rfl⟩
      have h5b : ((k : Int) == (L.length : Int) - 1) = b := by
        rw [← h5a, Bool.eq_iff_iff, beq_iff_eq, beq_iff_eq, f4]
        have := hl1.out
        omega
      have hp1 : ¬ (p : Int) < (a : Int) := by omega
      by_cases hk3 : kd = 3
      · subst hk3
        obtain rfl : false = b := h5a
        have hS1 : txS (3, p, tx, v) = 39 :: tx := rfl
        rw [hS1] at f2 f3 f6
        have htx : tx.length ≤ 2999 := by rw [List.length_cons] at f2; omega
        go_upto_region 13 with (fail)
        have hstr : (⟨#[39]⟩ : ByteArray) ++ ⟨tx.toArray⟩ = ⟨((39 :: tx : Bs)).toArray⟩ := by simp [ByteArray.mk_append_mk]
        rw [hstr]
        clear hstr hS1
        have hS0 : 1 ≤ ((39 :: tx : Bs)).length := by simp
        obtain ⟨S, hSS⟩ : ∃ S : Bs, 39 :: tx = S := ⟨_, rfl⟩
        rw [hSS] at f2 f3 f6 hS0 ⊢
        clear hSS htx
        have hpc : ¬ cap = p := by omega
        have i1 : ¬ (xs.length : Int) - (p : Int) < (S.length : Int) := by omega
        have hs := str_sub (n := S.length) (c := cap - p) (lo := p) (tx := S) (hS.out.nb (n1.trans n2)) f3 (by omega)
        go_upto_region 15 with (fail)
        have hsb := sub_src (a := a) (n := p - a) (hS.out.nb (n1.trans n2)) (by omega)
        have hll : ((xs.drop a).take (p - a)).length = p - a := by rw [List.length_take, List.length_drop]; omega
        have key2 := tokens_any (some (ad.add a)) (cap - a) ((xs.drop a).take (p - a)) (by omega) (by omega) W2 hsb
        rw [hll] at key2
        have key2 := Lib.hid key2
        have hTA2 := Lib.hid (TA_sub (by omega) f5)
        generalize (xs.drop a).take (p - a) = ys at key2 hTA2
        have hac : ¬ cap = a := by omega
        clear f1 f3 f5 hs c0 c2 c3
        go_upto_region 16 with (go_at_call 18; refine (key2.out).mono ?_; rintro e w5 ⟨v5, rfl, n5, o5⟩; rw [hTA2.out] at o5 ⊢)
        obtain ⟨A5, cap5, rfl, hcap5, -⟩ := row_own o5
        clear o5 key2 hTA2 c1
        replace b2 := n5.block b2
        obtain ⟨⟨c0, c1, c2, c3⟩, -⟩ := tk4 b2
        have n6 := n2.trans n5
        go_wp2_with fail
        exact ⟨⟨k + 1, p + S.length, by omega, (by first | rfl | trivial), (by first | rfl | trivial), Lib.hid f6, n6⟩, by simp [intOf] <;> omega⟩
      · have h3a : (kd == 3) = false := by simpa using hk3
        have hS1 : txS (kd, p, tx, v) = tx := if_neg hk3
        rw [hS1] at f2 f3 f6
        clear hS1 hk3
        have htx : tx.length ≤ 3000 := by omega
        have i1 : ¬ (xs.length : Int) - (p : Int) < (tx.length : Int) := by omega
        by_cases hpc : cap = p
        · obtain rfl : p = xs.length := by omega
          obtain rfl : cap = xs.length := by omega
          obtain rfl : tx = [] := List.eq_nil_of_length_eq_zero (by omega)
          clear f2 i1 htx
          have hs : (convert 36 9 (.slice (some ad) 0 0)).run Try.prog W2 = .ok (.string ⟨#[]⟩) W2 :=
            run_convert_bytes_back W2 _ _ 5 ad 0 [] Try.underlying36 Try.underlying5 Try.underlying9 fun j hj => absurd hj (by simp)
          go_upto_region 15 with (fail)
          simp only [List.length_nil, Nat.add_zero] at f6
          by_cases hac : xs.length = a
          · obtain rfl := hac
            have key2 := Lib.hid (tokens_any (some ad) 0 [] (Nat.zero_le _) (by decide) W2 (fun h => absurd h (by simp)))
            have hTA2 := Lib.hid (TA_sub (l := []) (by simp) rfl)
            clear f1 f3 f5 hs c0 c2 c3
            go_upto_region 16 with (go_at_call 18; refine (key2.out).mono ?_; rintro e w5 ⟨v5, rfl, n5, o5⟩; rw [hTA2.out] at o5 ⊢)
            obtain ⟨A5, cap5, rfl, hcap5, -⟩ := row_own o5
            clear o5 key2 hTA2 c1
            replace b2 := n5.block b2
            obtain ⟨⟨c0, c1, c2, c3⟩, -⟩ := tk4 b2
            have n6 := n2.trans n5
            go_wp2_with fail
            exact ⟨⟨k + 1, xs.length, by omega, (by first | rfl | trivial), (by first | rfl | trivial), Lib.hid f6, n6⟩, by simp [intOf] <;> omega⟩
          · have hz9 : True := trivial
            have hsb := sub_src (a := a) (n := xs.length - a) (hS.out.nb (n1.trans n2)) (by omega)
            have hll : ((xs.drop a).take (xs.length - a)).length = xs.length - a := by rw [List.length_take, List.length_drop]; omega
            have key2 := tokens_any (some (ad.add a)) (xs.length - a) ((xs.drop a).take (xs.length - a)) (by omega) (by omega) W2 hsb
            rw [hll] at key2
            have key2 := Lib.hid key2
            have hTA2 := Lib.hid (TA_sub (by omega) f5)
            generalize (xs.drop a).take (xs.length - a) = ys at key2 hTA2
            have hac : ¬ xs.length = a := by omega
            clear f1 f3 f5 hs c0 c2 c3
            go_upto_region 16 with (go_at_call 18; refine (key2.out).mono ?_; rintro e w5 ⟨v5, rfl, n5, o5⟩; rw [hTA2.out] at o5 ⊢)
            obtain ⟨A5, cap5, rfl, hcap5, -⟩ := row_own o5
            clear o5 key2 hTA2 c1
            replace b2 := n5.block b2
            obtain ⟨⟨c0, c1, c2, c3⟩, -⟩ := tk4 b2
            have n6 := n2.trans n5
            go_wp2_with fail
            exact ⟨⟨k + 1, xs.length, by omega, (by first | rfl | trivial), (by first | rfl | trivial), Lib.hid f6, n6⟩, by simp [intOf] <;> omega⟩
        · have hz9 : True := trivial
          have hs := str_sub (n := tx.length) (c := cap - p) (lo := p) (tx := tx) (hS.out.nb (n1.trans n2)) f3 (by omega)
          go_upto_region 15 with (fail)
          have hsb := sub_src (a := a) (n := p - a) (hS.out.nb (n1.trans n2)) (by omega)
          have hll : ((xs.drop a).take (p - a)).length = p - a := by rw [List.length_take, List.length_drop]; omega
          have key2 := tokens_any (some (ad.add a)) (cap - a) ((xs.drop a).take (p - a)) (by omega) (by omega) W2 hsb
          rw [hll] at key2
          have key2 := Lib.hid key2
          have hTA2 := Lib.hid (TA_sub (by omega) f5)
          generalize (xs.drop a).take (p - a) = ys at key2 hTA2
          have hac : ¬ cap = a := by omega
          clear f1 f3 f5 hs c0 c2 c3
          go_upto_region 16 with (go_at_call 18; refine (key2.out).mono ?_; rintro e w5 ⟨v5, rfl, n5, o5⟩; rw [hTA2.out] at o5 ⊢)
          obtain ⟨A5, cap5, rfl, hcap5, -⟩ := row_own o5
          clear o5 key2 hTA2 c1
          replace b2 := n5.block b2
          obtain ⟨⟨c0, c1, c2, c3⟩, -⟩ := tk4 b2
          have n6 := n2.trans n5
          go_wp2_with fail
          exact ⟨⟨k + 1, p + tx.length, by omega, (by first | rfl | trivial), (by first | rfl | trivial), Lib.hid f6, n6⟩, by simp [intOf] <;> omega⟩
    · obtain rfl : k = L.length := by omega
      have ha := hEnd.out a hat.out
      subst ha
      clear hat
      go_wp2_with (go_at_call 17; refine (lives_any _).mono ?_; rintro e w6 ⟨rfl, n6⟩)
      go_ret
      exact ⟨rfl, (n1.trans hN).trans n6⟩
set_option maxRecDepth 100000 in
set_option maxHeartbeats 4000000 in
theorem err (A : Option Addr) (cap : Nat) (xs : Bs) (p : Nat) (hx : xs.length ≤ 3000) (hc : xs.length ≤ cap) (w : World) (hS : Hid (SrcB w A xs)) (hT : TT xs 0 = .inl p) :
    Calls Try.prog 6 #[.slice A xs.length cap] w fun e w' => e = .returned (.bool true) ∧ Nb w w' := by
  have hTA : TA xs = ([], p, false) := by unfold TA; rw [if_neg (by omega), hT]
  have key := Lib.hid (tokens_any A cap xs hc (by omega) w hS.out)
  have hp := inl_room xs.length xs (Nat.le_refl _) 0 p hT
  have hTA := Lib.hid hTA
  have hle : ¬ (3000 : Int) < (xs.length : Int) := by omega
  have hp2 : (p : Int) < (xs.length : Int) := by omega
  clear hT
  go_enter Try.func6, Try.ntmps6
  go_upto_region 4 with (go_at_call 18; refine (key.out).mono ?_; rintro e w1 ⟨v1, rfl, n1, o1⟩; rw [hTA.out] at o1 ⊢)
  obtain ⟨A1, cap1, rfl, hcap1, -⟩ := row_own (ts := []) o1
  clear o1 hTA key
  go_wp2_with (go_at_call 17; refine (lives_any _).mono ?_; rintro e w6 ⟨rfl, n6⟩)
  go_ret
  exact ⟨rfl, n1.trans n6⟩
set_option maxRecDepth 100000 in
set_option maxHeartbeats 4000000 in
theorem nil_src (w : World) : Calls Try.prog 6 #[.slice none 0 0] w fun e w' => e = .returned (.bool true) ∧ Nb w w' := by
  have hTA : TA [] = ([(5, 0, [], 0)], 0, true) := by decide +kernel
  have key := Lib.hid (fun w => tokens_any none 0 [] (Nat.zero_le _) (by decide) w (fun h => absurd h (by simp)))
  have hTA := Lib.hid hTA
  have hs : ∀ w, (convert 36 9 (.slice none 0 0)).run Try.prog w = .ok (.string ⟨#[]⟩) w := fun w => run_convert_bytes_nil (P := Try.prog) w 36 5 Try.underlying36 Try.underlying5 0 0 9 Try.underlying9
  go_enter Try.func6, Try.ntmps6
  go_upto_region 4 with (go_at_call 18; refine (key.out _).mono ?_; rintro e w1 ⟨v1, rfl, n1, o1⟩; rw [hTA.out] at o1 ⊢)
  obtain ⟨A1, cap1, rfl, hcap1, hrow⟩ := row_own (ts := [(5, 0, [], 0)]) o1
  obtain ⟨g, o, rfl, c0, c1, c2, c3⟩ := hrow 0 _ rfl
  simp only [Nat.zero_mul, Nat.add_zero] at c0 c1 c2 c3
  clear o1 hrow
  go_upto_region 7 with (fail)
  go_wp2_with fail
  refine wp_loop_rounds 2 ?_
  rw [rounds_succ]
  go_upto_region 16 with (go_at_call 18; refine (key.out _).mono ?_; rintro e w5 ⟨v5, rfl, n5, o5⟩; rw [hTA.out] at o5 ⊢)
  obtain ⟨A5, cap5, rfl, hcap5, -⟩ := row_own (ts := [(5, 0, [], 0)]) o5
  simp only [List.length_cons, List.length_nil, Nat.zero_add] at hcap5 ⊢
  clear o5
  have b2 : (w1.alloc (Obj.cells (tkC 5 0 [] 0) 47)).heap[w1.heap.size]? = some (.cells (tkC 5 0 [] 0) 47 (0, 0)) := new_blk w1 _ rfl
  replace b2 := n5.block b2
  obtain ⟨⟨d0, d1, d2, d3⟩, -⟩ := tk4 b2
  go_wp2_with fail
  rw [rounds_succ]
  go_wp2_with (go_at_call 17; refine (lives_any _).mono ?_; rintro e w6 ⟨rfl, n6⟩)
  go_ret
  exact ⟨rfl, ((n1.alloc _).trans n5).trans n6⟩
set_option maxRecDepth 100000 in
set_option maxHeartbeats 4000000 in
theorem walk (A : Option Addr) (cap : Nat) (xs : Bs) (hx : xs.length ≤ 9223372036854775807) (hc : xs.length ≤ cap) (hz : A = none → cap = 0) (w : World) (hS : Hid (SrcB w A xs)) :
    Calls Try.prog 6 #[.slice A xs.length cap] w fun e w' => e = .returned (.bool true) ∧ Nb w w' := by
  by_cases h1 : (3000 : Int) < (xs.length : Int)
  · go_enter Try.func6, Try.ntmps6
    go_wp2_with (go_at_call 17; refine (lives_any _).mono ?_; rintro e w1 ⟨rfl, n1⟩)
    go_ret
    exact ⟨rfl, n1⟩
  · cases hT : TT xs 0 with
    | inl p => exact err A cap xs p (by omega) hc w hS hT
    | inr ts =>
      cases A with
      | some ad => exact main ad cap xs ts (by omega) hc w hS hT
      | none =>
        obtain rfl := hz rfl
        obtain rfl : xs = [] := List.eq_nil_of_length_eq_zero (by omega)
        exact nil_src w
/-! The row's step. -/
set_option maxRecDepth 100000 in
set_option maxHeartbeats 1000000 in
theorem lifted (os : Os) (started : os.Started) (H : Type) (enc : TypeId × Value → H) :
    ReturnsInHanded {} Try.checked os 6 .any (Rows.lexWholeSpec.pre6 enc Try.prog Try.f6 Rows.lexWholeRow.domain false)
      (Rows.lexWholeSpec.post enc Try.prog Try.f6 false true false false) := by
  refine returnsInHanded_of_change (C := Try.checked) own started (by kernel_rfl) Try.func6
    (ChangeSpec.witness6 (enc := enc) (C := Try.checked) false ⟨#[], #[.slice none 0 0], []⟩ 8 (by kernel_rfl) (by kernel_rfl) (by kernel_rfl) (by kernel_rfl)) ?_
  intro W base args ds gs before hval0 hW _ _
  have hval : ∀ (j : Nat) t v, Try.f6.params[j]? = some t → args[j]? = some v → Value.okWide Try.prog W .any base t v := hval0
  have hW' := hW
  obtain ⟨p, q, hA0, hV, rfl, hfz, hnd⟩ := hW
  have hA1 : DataW.TrodAll enc Try.prog W 0 (fun _ => true) true Try.f6.params.toList args.toList ds p := hA0
  have hA := hA1
  rw [Try.params6] at hA hval
  obtain ⟨v0, vs0, d0, ds0, p0, q0, hargs0, rfl, -, h0, r0⟩ := trodAll_cons hA
  obtain ⟨rfl, rfl, -⟩ := trodAll_nil r0
  obtain rfl : args = #[v0] := by cases args; simp_all
  obtain ⟨rfl, rfl⟩ := trodVars_none hV
  obtain ⟨A0, cap0, bs0, rfl, hl0, hc0, hz0, hI0⟩ := open_bytesZ (hval 0 36 v0 rfl rfl) h0
  clear hval0
  simp only [List.append_nil] at hW'
  refine (walk A0 cap0 bs0 hl0 hc0 hz0 W (Lib.hid hI0)).mono fun e W' ⟨he, hg⟩ => ?_
  subst he
  exact ⟨_, rfl, post_of_nb (pa := p) (pv := []) hW' (fun _ _ _ => (trodAll_cons_mk (shut_bool Try.underlying4 _) trodAll_mk0))
    (fun sp hsp => args_stay (by kernel_rfl) hg hA1 (fun t ht => by
      have h0 : (Try.f6.params.toList.all fun t => Try.prog.readableRec t && decide (t < Try.prog.types.size)) = true := by kernel_rfl
      have h1 := List.all_eq_true.1 h0 t ht
      rw [Bool.and_eq_true, decide_eq_true_eq] at h1
      exact h1) (fun x hx => hW'.lt x hx) hsp)
    (fun _ _ => rfl) (by simp) hg (ok_one (by kernel_rfl) rfl (okWide_bool_mk Try.underlying4 _))⟩
theorem over : Rows.lexWholeRow.holds Try.pinned (OpenSpec.ofChange Rows.lexWholeSpec) :=
  OpenClaim.holds_of_wide 6 Try.f6 rfl rfl rfl rfl rfl rfl rfl ⟨rfl, rfl, rfl, rfl, rfl⟩ rfl rfl rfl rfl rfl (by kernel_rfl) Try.func6 (by kernel_rfl)
    (of_decide_eq_true (by kernel_rfl)) (by unfold Func.isWrapper; first | (rw [if_pos (by decide +kernel)]; kernel_rfl) | (rw [if_neg (by decide +kernel)]; exact ⟨rfl, rfl⟩))
    (fun os started H enc _ => lifted os started H enc)
/-- The statement. -/
theorem proved : Rows.LexWholeSaid := over
#print axioms proved
end Go.Proofs.Yticifolljhplmaa.lexWhole
