/-
  Proved here: words of two sources with a line feed between them are by lex those of both. No condition.
-/
import Derived.Test.YticifolljhplmaaKp
import Derived.Test.YticifolljhplmaaKr
import Derived.Laws.AppendOwnNone
import Derived.Deep.MidRow
namespace Go.Proofs.Yticifolljhplmaa.lexParts
open Go.ChangeShapes Go.WideShapes Go.ChangeAt Go.RowKit
set_option linter.unusedVariables false
set_option linter.unusedSimpArgs false
/-- What an append takes: nothing, or cells at an address. -/
def SrcR (w : World) (v : Value) (m size : Nat) (news : List Value) : Prop :=
  (v = .slice none 0 0 ∧ m = 0 ∧ news = []) ∨ ∃ (ad : Addr) (c : Nat), v = .slice (some ad) m c ∧ news.length = m * size ∧ (∀ (j : Nat) (u : Value), news[j]? = some u → w.cell? (ad.add j) = some u) ∧ (∀ u ∈ news, u.oneCell' = true)
theorem wpList_append_src {P : Program} {w : World} {ops : Array Oper} {rest : List Oper} {o : Oper} {a : Act} {Q : Exit → Act → World → Prop} (hgd : o.guard = none) (s x : Operand) (t : TypeId)
    (ho : o.op = .call { callee := .builtin .append, args := #[s, x], argTypes := #[t, t] })
    (base : Nat) (e : TypeId) (i : TypeInfo) (z : Value) (size bytes : Nat) (ht : P.underlying t = some (.slice e)) (hi : P.info? e = some i) (hz : i.zero = some z)
    (hsize : i.size = size) (hby : i.bytes = bytes) (hzs : z.cells.size = size) (hsz : 0 < size)
    (v : Value) (n : Nat) (xs : List Value) (hs : a.eval s = v) (hown : w.ownsRow base e size v n xs)
    (sv : Value) (m : Nat) (news : List Value) (hx : a.eval x = sv) (hsrc : SrcR w sv m size news)
    (h63 : n + m ≤ maxLen) (hbytes : (n + m) * bytes ≤ 140737488355328) (hbase : base ≤ w.heap.size)
    (h : ∀ v' w', w'.ownsRow base e size v' (n + m) (xs ++ news) → w.grownBy w' v.ownBlock → wpList P ops Q rest (a.put o.dst v') w') : wpList P ops Q (o :: rest) a w := by
  rcases hsrc with ⟨rfl, rfl, rfl⟩ | ⟨ad, c, rfl, hl, hn, h1⟩
  · refine wpList_append_own_none hgd s x t ho base e i size ht hi v n xs hs hown hx (h v w (by simpa using hown) ?_)
    exact ⟨rfl, rfl, rfl, Nat.le_refl _, fun _ _ _ => rfl⟩
  · exact wpList_append_own _ hgd s x t ho base e i z size bytes ht hi hz hsize hby hzs hsz v n xs hs hown ad m c news hx hl hn h1 h63 hbytes hbase (fun v' w' h2 h3 _ => h v' w' h2 h3)
theorem own_ge {w : World} {base s n : Nat} {t : TypeId} {v : Value} {xs : List Value} (h : w.ownsRow base t s v n xs) : ∀ r, v.ownBlock = some r → base ≤ r := by
  intro r hr
  rcases h.2 with ⟨rfl, -⟩ | ⟨g, cap, cur, rfl, hb, -⟩
  · cases hr
  · simp only [Value.ownBlock, Option.some.injEq] at hr
    omega
/-- Where a round stands: the words from here on are those that are left. -/
def At (xs : Bs) (ts : List Tk) (k a : Nat) : Prop := (k ≤ ts.length ∧ a ≤ xs.length ∧ TT (xs.drop a) a = .inr (ts.drop k)) ∨ (k = ts.length + 1 ∧ a = xs.length)
abbrev txS (t : Tk) : Bs := if t.1 = 3 then 39 :: t.2.2.1 else t.2.2.1
theorem whole_step {xs : Bs} {ts : List Tk} {k a : Nat} {t : Tk} (h : At xs ts k a) (ht : (ts ++ [endT xs])[k]? = some t) :
    a ≤ t.2.1 ∧ t.2.1 + (txS t).length ≤ xs.length ∧ (xs.drop t.2.1).take (txS t).length = txS t ∧ (t.1 = 5 ↔ k = ts.length) ∧ TT ((xs.drop a).take (t.2.1 - a)) 0 = .inr [] ∧ At xs ts (k + 1) (t.2.1 + (txS t).length) := by
  have hk : k < (ts ++ [endT xs]).length := by
    by_cases hh : k < (ts ++ [endT xs]).length
    · exact hh
    · rw [List.getElem?_eq_none (by omega)] at ht; cases ht
  rw [List.length_append, List.length_singleton] at hk
  rcases h with ⟨h1, h2, h3⟩ | ⟨h1, h2⟩
  · by_cases hl : k < ts.length
    · rw [List.getElem?_append_left hl] at ht
      have hd : ts.drop k = t :: ts.drop (k + 1) := by
        rw [List.drop_eq_getElem_cons hl]
        rw [List.getElem?_eq_getElem hl] at ht
        rw [Option.some.inj ht]
      rw [hd] at h3
      obtain ⟨m, e1, e2, e3, e4, e5, e6⟩ := tt_first h3
      rw [List.length_drop] at e3
      rw [List.drop_drop] at e4
      have hS : txS t = (xs.drop (a + btw (xs.drop a) false)).take m := e4.symm
      have hm : (txS t).length = m := by rw [hS, List.length_take, List.length_drop]; omega
      refine ⟨by omega, by omega, ?_, ?_, ?_, .inl ⟨by omega, by omega, ?_⟩⟩
      · rw [hm, e1]; exact hS.symm
      · constructor
        · intro h; omega
        · intro h; omega
      · rw [e1, show a + btw (xs.drop a) false - a = btw (xs.drop a) false by omega]
        exact tt_between _
      · rw [hm, e1]
        rw [List.drop_drop] at e6
        rw [show a + btw (xs.drop a) false + m = a + (btw (xs.drop a) false + m) by omega, ← e6]
        congr 1
        omega
    · obtain rfl : k = ts.length := by omega
      rw [List.getElem?_append_right (Nat.le_refl _), Nat.sub_self] at ht
      obtain rfl : endT xs = t := by simpa using ht
      rw [List.drop_length] at h3
      have hb := tt_last h3
      rw [List.length_drop] at hb
      have e0 : txS (endT xs) = [] := rfl
      have e1 : (endT xs).2.1 = xs.length := rfl
      have e2 : (endT xs).1 = 5 := rfl
      rw [e0, e1, e2]
      refine ⟨h2, by simp, rfl, by simp, ?_, .inr ⟨rfl, by simp⟩⟩
      rw [← hb]
      exact tt_between _
  · omega

theorem at_all {xs : Bs} {ts : List Tk} (h : TT xs 0 = .inr ts) : ∀ k, k ≤ ts.length → ∃ a, At xs ts k a := by
  intro k
  induction k with
  | zero => intro _; exact ⟨0, .inl ⟨Nat.zero_le _, Nat.zero_le _, by rw [List.drop_zero, List.drop_zero]; exact h⟩⟩
  | succ k ih =>
    intro hk
    obtain ⟨a, ha⟩ := ih (by omega)
    have hl : k < (ts ++ [endT xs]).length := by rw [List.length_append, List.length_singleton]; omega
    obtain ⟨-, -, -, -, -, h6⟩ := whole_step ha (List.getElem?_eq_getElem hl)
    exact ⟨_, h6⟩
theorem at_le {xs : Bs} {ts : List Tk} (h : TT xs 0 = .inr ts) {k : Nat} {t : Tk} (ht : (ts ++ [endT xs])[k]? = some t) : t.2.1 ≤ xs.length := by
  have hk : k < (ts ++ [endT xs]).length := by
    by_cases hh : k < (ts ++ [endT xs]).length
    · exact hh
    · rw [List.getElem?_eq_none (by omega)] at ht; cases ht
  rw [List.length_append, List.length_singleton] at hk
  obtain ⟨a, ha⟩ := at_all h k (by omega)
  obtain ⟨-, h2, -⟩ := whole_step ha ht
  omega
def upT (q : Nat) (t : Tk) : Tk := (t.1, t.2.1 + q, t.2.2.1, t.2.2.2)
theorem parts_TA {xs ys : Bs} (hx : xs.length ≤ 2000) (hy : ys.length ≤ 2000) : TA (xs ++ 10 :: ys) = match TT xs 0, TT ys 0 with
    | .inl e, _ => ([], e, false)
    | .inr _, .inl f => ([], f + (xs.length + 1), false)
    | .inr ts, .inr us => (ts ++ (us ++ [endT ys]).map (upT (xs.length + 1)), 0, true) := by
  have hl : (xs ++ 10 :: ys).length = xs.length + 1 + ys.length := by simp; omega
  unfold TA
  rw [if_neg (by omega), tt_app ys xs.length xs (Nat.le_refl _) 0]
  cases hT : TT xs 0 with
  | inl e => rfl
  | inr ts =>
    have hs := tt_sh (xs.length + 1) ys.length ys (Nat.le_refl _) 0
    rw [show 0 + xs.length + 1 = 0 + (xs.length + 1) by omega]
    cases hU : TT ys 0 with
    | inl f => simp only []; rw [hs, hU]; rfl
    | inr us =>
      simp only []
      rw [hs, hU]
      show ((ts ++ us.map (upT (xs.length + 1))) ++ [endT (xs ++ 10 :: ys)], 0, true) = _
      have e : endT (xs ++ 10 :: ys) = upT (xs.length + 1) (endT ys) := by
        show ((5 : Int), (xs ++ 10 :: ys).length, ([] : Bs), (0 : Int)) = (5, ys.length + (xs.length + 1), [], 0)
        rw [hl, show ys.length + (xs.length + 1) = xs.length + 1 + ys.length by omega]
      rw [e, List.map_append, List.append_assoc]
      rfl
theorem infoB : (Try.prog.info? 5).map (fun i => (i.zero, i.size, i.bytes)) = some (some (.int .u8 0), 1, 1) := by kernel_rfl
theorem partsB : ∃ i, Try.prog.info? 5 = some i ∧ i.zero = some (.int .u8 0) ∧ i.size = 1 ∧ i.bytes = 1 := by
  have h := infoB
  cases hq : Try.prog.info? 5 with
  | none => rw [hq] at h; cases h
  | some i =>
    rw [hq] at h
    simp only [Option.map_some, Option.some.injEq, Prod.mk.injEq] at h
    exact ⟨i, rfl, h.1, h.2.1, h.2.2⟩
abbrev bC (l : Bs) : List Value := l.map fun c => Value.int .u8 (bI c)
theorem own0 {w : World} {g base : Nat} (h : w.heap[g]? = some (.cells #[] 5 (0, 0))) (hb : base ≤ g) : w.ownsRow base 5 1 (.slice (some ⟨g, 0, none⟩) 0 0) 0 [] :=
  ⟨rfl, .inr ⟨g, 0, #[], rfl, hb, h, Nat.le_refl _, by decide, rfl, rfl⟩⟩
theorem src_b {w : World} {A : Option Addr} {cap : Nat} {xs : Bs} (h : SrcB w A xs) (hc : xs.length ≤ cap) (hz : A = none → cap = 0) : SrcR w (.slice A xs.length cap) xs.length 1 (bC xs) := by
  cases A with
  | none =>
    obtain rfl := hz rfl
    obtain rfl : xs = [] := List.eq_nil_of_length_eq_zero (by omega)
    exact .inl ⟨rfl, rfl, rfl⟩
  | some ad =>
    refine .inr ⟨ad, cap, rfl, by simp, fun j u hj => ?_, fun u hu => ?_⟩
    · simp only [List.getElem?_map, Option.map_eq_some_iff] at hj
      obtain ⟨c, hc, rfl⟩ := hj
      obtain ⟨ad', hA, hh⟩ := h (by
        have := (List.getElem?_eq_some_iff.1 hc).1
        omega)
      obtain rfl := Option.some.inj hA
      exact hh j c hc
    · simp only [List.mem_map] at hu
      obtain ⟨c, -, rfl⟩ := hu
      rfl
theorem src_1 {w : World} {g : Nat} (h : w.heap[g]? = some (.cells #[.int .u8 10] 5 (0, 0))) : SrcR w (.slice (some ⟨g, 0, none⟩) 1 1) 1 1 [.int .u8 10] := by
  refine .inr ⟨_, 1, rfl, rfl, fun j u hj => ?_, fun u hu => ?_⟩
  · cases j with
    | zero =>
      obtain rfl := Option.some.inj hj
      rw [show (⟨g, 0, none⟩ : Addr).add 0 = ⟨g, 0, none⟩ by simp [Addr.add], cell_of_row _ _ 0 _ _ _ h]
      rfl
    | succ j => simp at hj
  · simp at hu
    subst hu
    rfl
theorem src_own {w : World} {B n : Nat} {v : Value} {zs : Bs} {cs : List Value} (h : w.ownsRow B 5 1 v n cs) (hn : n = zs.length) (hcs : cs = bC zs) (h0 : 0 < n) : ∃ g cap, v = .slice (some ⟨g, 0, none⟩) zs.length cap ∧ zs.length ≤ cap ∧ SrcB w (some ⟨g, 0, none⟩) zs := by
  subst hn hcs
  have h2 := h
  rcases h.2 with ⟨-, h1⟩ | ⟨g, cap, cur, rfl, -, -, hc, -⟩
  · omega
  · refine ⟨g, cap, rfl, hc, fun _ => ⟨_, rfl, fun j c hj => ?_⟩⟩
    have hlt := (List.getElem?_eq_some_iff.1 hj).1
    rw [show (⟨g, 0, none⟩ : Addr).add j = ⟨g, j, none⟩ by simp [Addr.add] <;> omega, World.ownsRow.cellAt h2 j (by omega)]
    simp [bC, hj]
theorem Nb.grown' {a b c : World} {row : Option Nat} (h : Nb a b) (hg : b.grownBy c row) (hr : ∀ k, row = some k → a.heap.size ≤ k) : Nb a c := Below.grown h hg h.size hr
theorem four_put {w W1 W2 : World} {x y z u a b c d : Value} {t : TypeId} {o : Obj} (h : ((((W1.setCell ⟨w.heap.size + 1, 0, none⟩ x).setCell ⟨w.heap.size + 1, 1, none⟩ y).setCell ⟨w.heap.size + 1, 2, none⟩ z).setCell ⟨w.heap.size + 1, 3, none⟩ u) = W2) (n1 : Nb w W1)
    (b1 : W1.heap[w.heap.size + 1]? = some (.cells #[a, b, c, d] t (0, 0))) (b0 : W1.heap[w.heap.size]? = some o) : W2.heap[w.heap.size + 1]? = some (.cells #[x, y, z, u] t (0, 0)) ∧ W2.heap[w.heap.size]? = some o ∧ Nb w W2 := by
  subst h
  have hne : ∀ j, w.heap.size ≠ (⟨w.heap.size + 1, j, none⟩ : Addr).block := fun j => by show w.heap.size ≠ w.heap.size + 1; omega
  have hle : ∀ j, w.heap.size ≤ (⟨w.heap.size + 1, j, none⟩ : Addr).block := fun j => by show w.heap.size ≤ w.heap.size + 1; omega
  refine ⟨set4_all x y z u b1, ?_, (((n1.setCell (hle 0) _).setCell (hle 1) _).setCell (hle 2) _).setCell (hle 3) _⟩
  exact (Below.heap_setCell _ _ _ _ (hne 3)).trans ((Below.heap_setCell _ _ _ _ (hne 2)).trans ((Below.heap_setCell _ _ _ _ (hne 1)).trans ((Below.heap_setCell _ _ _ _ (hne 0)).trans b0)))
theorem at_put {w W1 W2 : World} {k : Value} {a b c d : Value} {t : TypeId} (h : W1.setCell ⟨w.heap.size + 1, 1, none⟩ k = W2) (n1 : Nb w W1) (b1 : W1.heap[w.heap.size + 1]? = some (.cells #[a, b, c, d] t (0, 0))) {o : Obj} (b0 : W1.heap[w.heap.size]? = some o) :
    W2.heap[w.heap.size + 1]? = some (.cells #[a, k, c, d] t (0, 0)) ∧ W2.heap[w.heap.size]? = some o ∧ Nb w W2 := by
  subst h
  exact ⟨by rw [set_blk b1 1 k]; rfl, (Below.heap_setCell _ _ _ _ (by show w.heap.size ≠ w.heap.size + 1; omega)).trans b0, n1.setCell (by show w.heap.size ≤ w.heap.size + 1; omega) _⟩
theorem neq_same (kd p : Int) (n : Nat) (hp : p = n) (tx : Bs) (v : Int) (w : World) : (binOp .neq 47 (.agg (tkC kd p tx v)) (.agg (tkC kd p tx v))).run Try.prog w = .ok (.bool false) w := by
  subst hp
  exact (neq_tok (kd, n, tx, v) (kd, n, tx, v) w).trans (by rw [decide_eq_true rfl]; rfl)
set_option maxRecDepth 100000 in
set_option maxHeartbeats 4000000 in
theorem err1 (A : Option Addr) (ca : Nat) (xs : Bs) (B : Option Addr) (cb : Nat) (ys : Bs) (hx : xs.length ≤ 2000) (hca : xs.length ≤ ca) (hza : A = none → ca = 0) (hy : ys.length ≤ 2000) (hcb : ys.length ≤ cb) (hzb : B = none → cb = 0)
    (w : World) (hA : Hid (SrcB w A xs)) (hB : Hid (SrcB w B ys)) (p : Nat) (r2 : List Tk) (p2 : Nat) (b2 : Bool) (e1 : Hid (TA xs = ([], p, false))) (e2 : Hid (TA ys = (r2, p2, b2))) (e3 : Hid (TA (xs ++ 10 :: ys) = ([], p, false))) :
    Calls Try.prog 7 #[.slice A xs.length ca, .slice B ys.length cb] w fun e w' => e = .returned (.bool true) ∧ Nb w w' := by
  have k1 := Lib.hid (tokens_any A ca xs hca (by omega) w hA.out)
  have k2 := Lib.hid (fun w1 (n : Nb w w1) => tokens_any B cb ys hcb (by omega) w1 (hB.out.nb n))
  have k3 := Lib.hid (fun g c w1 (hc : (xs ++ 10 :: ys).length ≤ c) (hS : SrcB w1 (some ⟨g, 0, none⟩) (xs ++ 10 :: ys)) => tokens_any (some ⟨g, 0, none⟩) c (xs ++ 10 :: ys) hc (by simp; omega) w1 hS)
  obtain ⟨i0, hi0, hz0, hz1, hz2⟩ := partsB
  have hle1 : ¬ (2000 : Int) < (xs.length : Int) := by omega
  have hle2 : ¬ (2000 : Int) < (ys.length : Int) := by omega
  have hmx : (9000 : Nat) ≤ maxLen := by decide
  have hza := Lib.hid hza
  have hzb := Lib.hid hzb
  cases b2
  all_goals
    go_enter Try.func7, Try.ntmps7
    go_upto_region 4 with (go_at_call 18; refine (k1.out).mono ?_; rintro e w1 ⟨v1, rfl, n1, o1⟩; rw [e1.out] at o1 ⊢)
    go_upto_region 5 with (go_at_call 18; refine (k2.out _ n1).mono ?_; rintro e w2 ⟨v2, rfl, n2, o2⟩; rw [e2.out] at o2 ⊢)
    have nn2 := n1.trans n2
    have hz3 := nn2.size
    go_upto_region 6 with (first
      | (at_builtin; refine wpList_append_src rfl (.tmp 39) (.tmp 40) 36 rfl w2.heap.size 5 i0 _ 1 1 Try.underlying36 hi0 hz0 hz1 hz2 rfl (by decide) _ 0 [] rfl (own0 (new_blk w2 _ rfl) (Nat.le_refl _)) _ xs.length (bC xs) rfl (src_b (hA.out.nb (nn2.alloc _)) hca hza.out) (by omega) (by omega) (by simp) ?_; intro v3 W1 q1 g1; have n3 := Nb.grown' ((Nb.refl w2).alloc (.cells #[] 5)) g1 (fun r e => by cases e; exact Nat.le_refl _))
      | (at_builtin; refine wpList_append_src rfl (.tmp 41) (.tmp 42) 36 rfl w2.heap.size 5 i0 _ 1 1 Try.underlying36 hi0 hz0 hz1 hz2 rfl (by decide) v3 (0 + xs.length) ([] ++ bC xs) rfl (World.ownsRow.alloc q1 (Obj.cells #[Value.int .u8 10] 5)) (.slice (some ⟨W1.heap.size, 0, none⟩) 1 1) 1 [Value.int .u8 10] rfl (src_1 (g := W1.heap.size) (new_blk W1 (Obj.cells #[Value.int .u8 10] 5) rfl)) (by omega) (by omega) (Nb.size (n3.alloc (Obj.cells #[Value.int .u8 10] 5))) ?_; intro v4 W2 q2 g2; have n4 := Nb.grown' (n3.alloc (.cells #[.int .u8 10] 5)) g2 (own_ge (World.ownsRow.alloc q1 (Obj.cells #[Value.int .u8 10] 5))))
      | (at_builtin; refine wpList_append_src rfl (.tmp 43) (.tmp 44) 36 rfl w2.heap.size 5 i0 _ 1 1 Try.underlying36 hi0 hz0 hz1 hz2 rfl (by decide) v4 (0 + xs.length + 1) (([] ++ bC xs) ++ [Value.int .u8 10]) rfl q2 (.slice B ys.length cb) ys.length (bC ys) rfl (src_b (hB.out.nb (nn2.trans n4)) hcb hzb.out) (by omega) (by omega) n4.size ?_; intro v5 W3 q3 g3; have n5 := Nb.grown' n4 g3 (own_ge q2)))
    obtain ⟨g, c3, rfl, hc3, hS3⟩ := src_own (zs := xs ++ 10 :: ys) q3 (by simp; omega) (by simp [bC, bI]) (by omega)
    refine (k3.out _ _ _ hc3 hS3).mono ?_
    rintro e w6 ⟨v6, rfl, n6, o6⟩
    rw [e3.out] at o6 ⊢
    dsimp only
    repeat (first | (with_reducible first | refine then_exit ?_ | refine in_same ?_ | refine then_ret ?_ | refine in_ret ?_) | ((with_reducible refine in_other ?_ ?_); decide) | go_values | go_skip | go_guarded | go_step | go_upon | go_back)
    clear o1 o2 o6 k1 k2 k3 q1 q2 q3 g1 g2 g3
    go_wp2_with (go_at_call 17; refine (lives_any _).mono ?_; rintro e w7 ⟨rfl, n7⟩)
    go_ret
    exact ⟨rfl, ((nn2.trans n5).trans n6).trans n7⟩
set_option maxRecDepth 100000 in
set_option maxHeartbeats 4000000 in
theorem err2 (A : Option Addr) (ca : Nat) (xs : Bs) (B : Option Addr) (cb : Nat) (ys : Bs) (hx : xs.length ≤ 2000) (hca : xs.length ≤ ca) (hza : A = none → ca = 0) (hy : ys.length ≤ 2000) (hcb : ys.length ≤ cb) (hzb : B = none → cb = 0)
    (w : World) (hA : Hid (SrcB w A xs)) (hB : Hid (SrcB w B ys)) (p : Nat) (r1 : List Tk) (e1 : Hid (TA xs = (r1, 0, true))) (e2 : Hid (TA ys = ([], p, false))) (e3 : Hid (TA (xs ++ 10 :: ys) = ([], p + (xs.length + 1), false))) (hp : p ≤ 2000) :
    Calls Try.prog 7 #[.slice A xs.length ca, .slice B ys.length cb] w fun e w' => e = .returned (.bool true) ∧ Nb w w' := by
  have k1 := Lib.hid (tokens_any A ca xs hca (by omega) w hA.out)
  have k2 := Lib.hid (fun w1 (n : Nb w w1) => tokens_any B cb ys hcb (by omega) w1 (hB.out.nb n))
  have k3 := Lib.hid (fun g c w1 (hc : (xs ++ 10 :: ys).length ≤ c) (hS : SrcB w1 (some ⟨g, 0, none⟩) (xs ++ 10 :: ys)) => tokens_any (some ⟨g, 0, none⟩) c (xs ++ 10 :: ys) hc (by simp; omega) w1 hS)
  obtain ⟨i0, hi0, hz0, hz1, hz2⟩ := partsB
  have hle1 : ¬ (2000 : Int) < (xs.length : Int) := by omega
  have hle2 : ¬ (2000 : Int) < (ys.length : Int) := by omega
  have hmx : (9000 : Nat) ≤ maxLen := by decide
  have hza := Lib.hid hza
  have hzb := Lib.hid hzb
  go_enter Try.func7, Try.ntmps7
  go_upto_region 4 with (go_at_call 18; refine (k1.out).mono ?_; rintro e w1 ⟨v1, rfl, n1, o1⟩; rw [e1.out] at o1 ⊢)
  go_upto_region 5 with (go_at_call 18; refine (k2.out _ n1).mono ?_; rintro e w2 ⟨v2, rfl, n2, o2⟩; rw [e2.out] at o2 ⊢)
  have nn2 := n1.trans n2
  have hz3 := nn2.size
  go_upto_region 6 with (first
    | (at_builtin; refine wpList_append_src rfl (.tmp 39) (.tmp 40) 36 rfl w2.heap.size 5 i0 _ 1 1 Try.underlying36 hi0 hz0 hz1 hz2 rfl (by decide) _ 0 [] rfl (own0 (new_blk w2 _ rfl) (Nat.le_refl _)) _ xs.length (bC xs) rfl (src_b (hA.out.nb (nn2.alloc _)) hca hza.out) (by omega) (by omega) (by simp) ?_; intro v3 W1 q1 g1; have n3 := Nb.grown' ((Nb.refl w2).alloc (.cells #[] 5)) g1 (fun r e => by cases e; exact Nat.le_refl _))
    | (at_builtin; refine wpList_append_src rfl (.tmp 41) (.tmp 42) 36 rfl w2.heap.size 5 i0 _ 1 1 Try.underlying36 hi0 hz0 hz1 hz2 rfl (by decide) v3 (0 + xs.length) ([] ++ bC xs) rfl (World.ownsRow.alloc q1 (Obj.cells #[Value.int .u8 10] 5)) (.slice (some ⟨W1.heap.size, 0, none⟩) 1 1) 1 [Value.int .u8 10] rfl (src_1 (g := W1.heap.size) (new_blk W1 (Obj.cells #[Value.int .u8 10] 5) rfl)) (by omega) (by omega) (Nb.size (n3.alloc (Obj.cells #[Value.int .u8 10] 5))) ?_; intro v4 W2 q2 g2; have n4 := Nb.grown' (n3.alloc (.cells #[.int .u8 10] 5)) g2 (own_ge (World.ownsRow.alloc q1 (Obj.cells #[Value.int .u8 10] 5))))
    | (at_builtin; refine wpList_append_src rfl (.tmp 43) (.tmp 44) 36 rfl w2.heap.size 5 i0 _ 1 1 Try.underlying36 hi0 hz0 hz1 hz2 rfl (by decide) v4 (0 + xs.length + 1) (([] ++ bC xs) ++ [Value.int .u8 10]) rfl q2 (.slice B ys.length cb) ys.length (bC ys) rfl (src_b (hB.out.nb (nn2.trans n4)) hcb hzb.out) (by omega) (by omega) n4.size ?_; intro v5 W3 q3 g3; have n5 := Nb.grown' n4 g3 (own_ge q2)))
  obtain ⟨g, c3, rfl, hc3, hS3⟩ := src_own (zs := xs ++ 10 :: ys) q3 (by simp; omega) (by simp [bC, bI]) (by omega)
  refine (k3.out _ _ _ hc3 hS3).mono ?_
  rintro e w6 ⟨v6, rfl, n6, o6⟩
  rw [e3.out] at o6 ⊢
  dsimp only
  rw [show ((p + (xs.length + 1) : Nat) : Int) = (p : Int) + (xs.length : Int) + 1 by omega]
  repeat (first | (with_reducible first | refine then_exit ?_ | refine in_same ?_ | refine then_ret ?_ | refine in_ret ?_) | ((with_reducible refine in_other ?_ ?_); decide) | go_values | go_skip | go_guarded | go_step | go_upon | go_back)
  clear o1 o2 o6 k1 k2 k3 q1 q2 q3 g1 g2 g3
  go_wp2_with (go_at_call 17; refine (lives_any _).mono ?_; rintro e w7 ⟨rfl, n7⟩)
  go_ret
  exact ⟨rfl, ((nn2.trans n5).trans n6).trans n7⟩
set_option maxRecDepth 100000 in
set_option maxHeartbeats 4000000 in
theorem main (A : Option Addr) (ca : Nat) (xs : Bs) (B : Option Addr) (cb : Nat) (ys : Bs) (hx : xs.length ≤ 2000) (hca : xs.length ≤ ca) (hza : A = none → ca = 0) (hy : ys.length ≤ 2000) (hcb : ys.length ≤ cb) (hzb : B = none → cb = 0)
    (w : World) (hA : Hid (SrcB w A xs)) (hB : Hid (SrcB w B ys)) (la lm L : List Tk) (e1 : Hid (TA xs = (la, 0, true))) (e2 : Hid (TA ys = (lm, 0, true))) (e3 : Hid (TA (xs ++ 10 :: ys) = (L, 0, true))) (N1 N2 N3 : Nat) (l1 : Hid (la.length = N1)) (l2 : Hid (lm.length = N2)) (l3 : Hid (L.length = N3)) (h12 : N1 + N2 = N3 + 1) (hb1 : N1 ≤ 3000) (hb2 : N2 ≤ 3000) (hpos : 1 ≤ N1)
    (hL1 : Hid (∀ k t, L[k]? = some t → k + 1 < N1 → la[k]? = some t ∧ t.2.1 ≤ 5000)) (hL2 : Hid (∀ k t, L[k]? = some t → N1 ≤ k + 1 → ∃ t0 : Tk, lm[k + 1 - N1]? = some t0 ∧ t = upT (xs.length + 1) t0 ∧ t0.2.1 ≤ 5000)) :
    Calls Try.prog 7 #[.slice A xs.length ca, .slice B ys.length cb] w fun e w' => e = .returned (.bool true) ∧ Nb w w' := by
  have k1 := Lib.hid (tokens_any A ca xs hca (by omega) w hA.out)
  have k2 := Lib.hid (fun w1 (n : Nb w w1) => tokens_any B cb ys hcb (by omega) w1 (hB.out.nb n))
  have k3 := Lib.hid (fun g c w1 (hc : (xs ++ 10 :: ys).length ≤ c) (hS : SrcB w1 (some ⟨g, 0, none⟩) (xs ++ 10 :: ys)) => tokens_any (some ⟨g, 0, none⟩) c (xs ++ 10 :: ys) hc (by simp; omega) w1 hS)
  obtain ⟨i0, hi0, hz0, hz1, hz2⟩ := partsB
  have hle1 : ¬ (2000 : Int) < (xs.length : Int) := by omega
  have hle2 : ¬ (2000 : Int) < (ys.length : Int) := by omega
  have hmx : (9000 : Nat) ≤ maxLen := by decide
  have hza := Lib.hid hza
  have hzb := Lib.hid hzb
  go_enter Try.func7, Try.ntmps7
  go_upto_region 4 with (go_at_call 18; refine (k1.out).mono ?_; rintro e w1 ⟨v1, rfl, n1, o1⟩; rw [e1.out] at o1 ⊢)
  go_upto_region 5 with (go_at_call 18; refine (k2.out _ n1).mono ?_; rintro e w2 ⟨v2, rfl, n2, o2⟩; rw [e2.out] at o2 ⊢)
  have nn2 := n1.trans n2
  have hz3 := nn2.size
  go_upto_region 6 with (first
    | (at_builtin; refine wpList_append_src rfl (.tmp 39) (.tmp 40) 36 rfl w2.heap.size 5 i0 _ 1 1 Try.underlying36 hi0 hz0 hz1 hz2 rfl (by decide) _ 0 [] rfl (own0 (new_blk w2 _ rfl) (Nat.le_refl _)) _ xs.length (bC xs) rfl (src_b (hA.out.nb (nn2.alloc _)) hca hza.out) (by omega) (by omega) (by simp) ?_; intro v3 W1 q1 g1; have n3 := Nb.grown' ((Nb.refl w2).alloc (.cells #[] 5)) g1 (fun r e => by cases e; exact Nat.le_refl _))
    | (at_builtin; refine wpList_append_src rfl (.tmp 41) (.tmp 42) 36 rfl w2.heap.size 5 i0 _ 1 1 Try.underlying36 hi0 hz0 hz1 hz2 rfl (by decide) v3 (0 + xs.length) ([] ++ bC xs) rfl (World.ownsRow.alloc q1 (Obj.cells #[Value.int .u8 10] 5)) (.slice (some ⟨W1.heap.size, 0, none⟩) 1 1) 1 [Value.int .u8 10] rfl (src_1 (g := W1.heap.size) (new_blk W1 (Obj.cells #[Value.int .u8 10] 5) rfl)) (by omega) (by omega) (Nb.size (n3.alloc (Obj.cells #[Value.int .u8 10] 5))) ?_; intro v4 W2 q2 g2; have n4 := Nb.grown' (n3.alloc (.cells #[.int .u8 10] 5)) g2 (own_ge (World.ownsRow.alloc q1 (Obj.cells #[Value.int .u8 10] 5))))
    | (at_builtin; refine wpList_append_src rfl (.tmp 43) (.tmp 44) 36 rfl w2.heap.size 5 i0 _ 1 1 Try.underlying36 hi0 hz0 hz1 hz2 rfl (by decide) v4 (0 + xs.length + 1) (([] ++ bC xs) ++ [Value.int .u8 10]) rfl q2 (.slice B ys.length cb) ys.length (bC ys) rfl (src_b (hB.out.nb (nn2.trans n4)) hcb hzb.out) (by omega) (by omega) n4.size ?_; intro v5 W3 q3 g3; have n5 := Nb.grown' n4 g3 (own_ge q2)))
  obtain ⟨g, c3, rfl, hc3, hS3⟩ := src_own (zs := xs ++ 10 :: ys) q3 (by simp; omega) (by simp [bC, bI]) (by omega)
  refine (k3.out _ _ _ hc3 hS3).mono ?_
  rintro e w6 ⟨v6, rfl, n6, o6⟩
  rw [e3.out] at o6 ⊢
  dsimp only
  obtain ⟨A1, c1, rfl, hc1, r1⟩ := (row_own o1).nb ((n2.trans n5).trans n6)
  obtain ⟨A2, c2, rfl, hc2, r2⟩ := (row_own o2).nb (n5.trans n6)
  obtain ⟨A3, c3', rfl, hc3', r3⟩ := row_own o6
  rw [l1.out] at hc1 ⊢
  rw [l2.out] at hc2 ⊢
  rw [l3.out] at hc3' ⊢
  have r1 := Lib.hid r1
  have r2 := Lib.hid r2
  have r3 := Lib.hid r3
  repeat (first | (with_reducible first | refine then_exit ?_ | refine in_same ?_ | refine then_ret ?_ | refine in_ret ?_) | ((with_reducible refine in_other ?_ ?_); decide) | go_values | go_skip | go_guarded | go_step | go_upon | go_back)

  clear k1 k2 k3 q1 q2 q3 g1 g2 g3
  go_upto_region 12 with (fail)
  go_wp2_with fail
  go_loopw [88] (fun si wr => ∃ k : Nat, k ≤ N3 ∧ si = .int .i64 k ∧ Nb w6 wr) (fun si _ => N3 - (intOf si).toNat)
  case atStart => exact ⟨0, Nat.zero_le _, rfl, Nb.refl _⟩
  case round =>
    obtain ⟨k, hk, rfl, hN⟩ := hrel
    by_cases hlt : k < N3
    · have hlt2 : (k : Int) < (N3 : Int) := by omega
      obtain ⟨⟨kd, p, tx, v⟩, ht⟩ : ∃ t, L[k]? = some t := ⟨_, List.getElem?_eq_getElem (by rw [l3.out]; exact hlt)⟩
      obtain ⟨g3, o3, rfl, c0, c1, c2, c3⟩ := r3.out k _ ht
      replace c0 := hN.cell c0
      replace c1 := hN.cell c1
      replace c2 := hN.cell c2
      replace c3 := hN.cell c3
      simp only [] at c0 c1 c2 c3
      go_upto_region 16 with (fail)
      obtain ⟨W4, hW⟩ : ∃ W4, (wr.alloc (Obj.cells (tkC kd p tx v) 47)).alloc (Obj.cells #[.int .i64 0, .int .i64 0, .string ⟨#[]⟩, .int .i64 0] 47) = W4 := ⟨_, rfl⟩
      obtain ⟨b0, b1, m4⟩ := two_made hW
      rw [hW]
      clear hW c0 c1 c2 c3
      have m4' := hN.trans m4
      have f1 := hL1.out k _ ht
      have f2 := hL2.out k _ ht
      clear ht
      by_cases hkn : k + 1 < N1
      · obtain ⟨ht1, hp5⟩ := f1 hkn
        simp only [] at hp5
        clear f1 f2
        obtain ⟨g5, o5, rfl, c0, c1, c2, c3⟩ := r1.out k _ ht1
        replace c0 := m4'.cell c0
        replace c1 := m4'.cell c1
        replace c2 := m4'.cell c2
        replace c3 := m4'.cell c3
        simp only [] at c0 c1 c2 c3
        obtain ⟨⟨e0, e1, e2, e3⟩, g0, g1, g2, g3⟩ := tk4 b1
        have hkn1 : (k : Int) < (N1 : Int) - 1 := by omega
        have hkn2 : (k : Int) < (N1 : Int) := by omega
        go_upto_region 20 with (fail)
        obtain ⟨W5, hW⟩ : ∃ W5, ((((W4.setCell ⟨wr.heap.size + 1, 0, none⟩ (.int .i64 kd)).setCell ⟨wr.heap.size + 1, 1, none⟩ (.int .i64 p)).setCell ⟨wr.heap.size + 1, 2, none⟩ (.string ⟨tx.toArray⟩)).setCell ⟨wr.heap.size + 1, 3, none⟩ (.int .i64 v)) = W5 := ⟨_, rfl⟩
        obtain ⟨b1', b0', m5⟩ := four_put hW m4 b1 b0
        rw [hW]
        clear hW b0 b1 c0 c1 c2 c3 e0 e1 e2 e3 g0 g1 g2 g3 m4
        obtain ⟨⟨c0, c1, c2, c3⟩, -⟩ := tk4 b0'
        obtain ⟨⟨e0, e1, e2, e3⟩, -⟩ := tk4 b1'
        have hnq := fun w => neq_same kd p p rfl tx v w
        go_wp2_with fail
        exact ⟨⟨k + 1, by omega, (by first | rfl | trivial), hN.trans m5⟩, by simp [intOf] <;> omega⟩
      · obtain ⟨⟨kd0, p0, tx0, v0⟩, ht1, heq, hp5⟩ := f2 (by omega)
        clear f1 f2
        simp only [] at hp5
        obtain ⟨rfl, rfl, rfl, rfl⟩ : kd0 = kd ∧ p = p0 + (xs.length + 1) ∧ tx0 = tx ∧ v0 = v := by
          simp only [upT, Prod.mk.injEq] at heq
          obtain ⟨h1, h2, h3, h4⟩ := heq
          exact ⟨h1.symm, h2, h3.symm, h4.symm⟩
        clear heq
        obtain ⟨j, hj⟩ : ∃ j, k + 1 - N1 = j := ⟨_, rfl⟩
        rw [hj] at ht1
        obtain ⟨g5, o5, rfl, c0, c1, c2, c3⟩ := r2.out j _ ht1
        replace c0 := m4'.cell c0
        replace c1 := m4'.cell c1
        replace c2 := m4'.cell c2
        replace c3 := m4'.cell c3
        simp only [] at c0 c1 c2 c3
        obtain ⟨⟨e0, e1, e2, e3⟩, g0, g1, g2, g3⟩ := tk4 b1
        have hkn1 : ¬ (k : Int) < (N1 : Int) - 1 := by omega
        have i1 : (k : Int) - (N1 : Int) = (j : Int) - 1 := by omega
        have hjn : (j : Int) < (N2 : Int) := by omega
        go_upto_region 19 with (fail)
        obtain ⟨W5, hW⟩ : ∃ W5, ((((W4.setCell ⟨wr.heap.size + 1, 0, none⟩ (.int .i64 kd0)).setCell ⟨wr.heap.size + 1, 1, none⟩ (.int .i64 p0)).setCell ⟨wr.heap.size + 1, 2, none⟩ (.string ⟨tx0.toArray⟩)).setCell ⟨wr.heap.size + 1, 3, none⟩ (.int .i64 v0)) = W5 := ⟨_, rfl⟩
        obtain ⟨b1', b0', m5⟩ := four_put hW m4 b1 b0
        rw [hW]
        clear hW b0 b1 c0 c1 c2 c3 e0 e1 e2 e3 g0 g1 g2 g3 m4
        obtain ⟨⟨c0, c1, c2, c3⟩, -⟩ := tk4 b0'
        obtain ⟨⟨e0, e1, e2, e3⟩, g0, g1, g2, g3⟩ := tk4 b1'
        go_upto_region 20 with (fail)
        obtain ⟨W6, hW⟩ : ∃ W6, W5.setCell ⟨wr.heap.size + 1, 1, none⟩ (.int .i64 ((p0 : Int) + ((xs.length : Int) + 1))) = W6 := ⟨_, rfl⟩
        obtain ⟨b1, b0, m6⟩ := at_put hW m5 b1' b0'
        rw [hW]
        clear hW b0' b1' c0 c1 c2 c3 e0 e1 e2 e3 g0 g1 g2 g3 m5
        rw [show ((p0 + (xs.length + 1) : Nat) : Int) = (p0 : Int) + ((xs.length : Int) + 1) by omega] at b0
        obtain ⟨⟨c0, c1, c2, c3⟩, -⟩ := tk4 b0
        obtain ⟨⟨e0, e1, e2, e3⟩, -⟩ := tk4 b1
        have hnq := fun w => neq_same kd0 ((p0 : Int) + ((xs.length : Int) + 1)) (p0 + (xs.length + 1)) (by omega) tx0 v0 w
        go_wp2_with fail
        exact ⟨⟨k + 1, by omega, (by first | rfl | trivial), hN.trans m6⟩, by simp [intOf] <;> omega⟩
    · obtain rfl : k = N3 := by omega
      go_wp2_with (go_at_call 17; refine (lives_any _).mono ?_; rintro e w7 ⟨rfl, n7⟩)
      go_ret
      exact ⟨rfl, (((nn2.trans n5).trans n6).trans hN).trans n7⟩
theorem tt_count : ∀ (n : Nat) (l : Bs), l.length ≤ n → ∀ (q : Nat) (ts : List Tk), TT l q = .inr ts → ts.length ≤ l.length := by
  intro n
  induction n with
  | zero =>
    intro l hl q ts h
    cases ts with
    | nil => exact Nat.zero_le _
    | cons t ts =>
      obtain ⟨m, -, h1, h2, -⟩ := tt_first h
      omega
  | succ n ih =>
    intro l hl q ts h
    cases ts with
    | nil => exact Nat.zero_le _
    | cons t ts =>
      obtain ⟨m, -, h1, h2, -, -, h6⟩ := tt_first h
      have := ih _ (by rw [List.length_drop]; omega) _ _ h6
      rw [List.length_drop] at this
      rw [List.length_cons]
      omega
set_option maxRecDepth 100000 in
set_option maxHeartbeats 4000000 in
theorem walk (A : Option Addr) (ca : Nat) (xs : Bs) (B : Option Addr) (cb : Nat) (ys : Bs) (hx : xs.length ≤ 9223372036854775807) (hca : xs.length ≤ ca) (hza : A = none → ca = 0) (hy : ys.length ≤ 9223372036854775807) (hcb : ys.length ≤ cb) (hzb : B = none → cb = 0)
    (w : World) (hA : Hid (SrcB w A xs)) (hB : Hid (SrcB w B ys)) :
    Calls Try.prog 7 #[.slice A xs.length ca, .slice B ys.length cb] w fun e w' => e = .returned (.bool true) ∧ Nb w w' := by
  by_cases h1 : (2000 : Int) < (xs.length : Int)
  · go_enter Try.func7, Try.ntmps7
    go_wp2_with (go_at_call 17; refine (lives_any _).mono ?_; rintro e w1 ⟨rfl, n1⟩)
    go_ret
    exact ⟨rfl, n1⟩
  · by_cases h2 : (2000 : Int) < (ys.length : Int)
    · go_enter Try.func7, Try.ntmps7
      go_wp2_with (go_at_call 17; refine (lives_any _).mono ?_; rintro e w1 ⟨rfl, n1⟩)
      go_ret
      exact ⟨rfl, n1⟩
    · have hx2 : xs.length ≤ 2000 := by omega
      have hy2 : ys.length ≤ 2000 := by omega
      have h3 := parts_TA hx2 hy2
      have e1 : TA xs = match TT xs 0 with | .inl p => ([], p, false) | .inr ts => (ts ++ [endT xs], 0, true) := by unfold TA; rw [if_neg (by omega)]; rfl
      have e2 : TA ys = match TT ys 0 with | .inl p => ([], p, false) | .inr ts => (ts ++ [endT ys], 0, true) := by unfold TA; rw [if_neg (by omega)]; rfl
      cases hT : TT xs 0 with
      | inl p =>
        rw [hT] at h3 e1
        exact err1 A ca xs B cb ys hx2 hca hza hy2 hcb hzb w hA hB p _ _ _ (Lib.hid e1) (Lib.hid rfl) (Lib.hid h3)
      | inr ts =>
        cases hU : TT ys 0 with
        | inl p =>
          rw [hT, hU] at h3
          rw [hT] at e1
          rw [hU] at e2
          have hp := inl_room ys.length ys (Nat.le_refl _) 0 p hU
          exact err2 A ca xs B cb ys hx2 hca hza hy2 hcb hzb w hA hB p _ (Lib.hid e1) (Lib.hid e2) (Lib.hid h3) (by omega)
        | inr us =>
          rw [hT, hU] at h3
          rw [hT] at e1
          rw [hU] at e2
          have c1 := tt_count _ xs (Nat.le_refl _) 0 ts hT
          have c2 := tt_count _ ys (Nat.le_refl _) 0 us hU
          refine main A ca xs B cb ys hx2 hca hza hy2 hcb hzb w hA hB _ _ _ (Lib.hid e1) (Lib.hid e2) (Lib.hid h3) (ts.length + 1) (us.length + 1) (ts.length + us.length + 1) (Lib.hid (by simp)) (Lib.hid (by simp)) (Lib.hid (by simp; omega)) (by omega) (by omega) (by omega) (by omega) (Lib.hid ?_) (Lib.hid ?_)
          · intro k t ht hk
            have hk2 : k < ts.length := by omega
            rw [List.getElem?_append_left hk2] at ht
            have ht2 : (ts ++ [endT xs])[k]? = some t := by rw [List.getElem?_append_left hk2]; exact ht
            have := at_le hT ht2
            exact ⟨ht2, by omega⟩
          · intro k t ht hk
            rw [List.getElem?_append_right (by omega), List.getElem?_map, Option.map_eq_some_iff] at ht
            obtain ⟨t0, ht0, rfl⟩ := ht
            rw [show k + 1 - (ts.length + 1) = k - ts.length by omega]
            have := at_le hU ht0
            exact ⟨t0, ht0, rfl, by omega⟩
/-! The row's step. -/
set_option maxRecDepth 100000 in
set_option maxHeartbeats 1000000 in
theorem lifted (os : Os) (started : os.Started) (H : Type) (enc : TypeId × Value → H) :
    ReturnsInHanded {} Try.checked os 7 .any (Rows.lexPartsSpec.pre6 enc Try.prog Try.f7 Rows.lexPartsRow.domain false)
      (Rows.lexPartsSpec.post enc Try.prog Try.f7 false true false false) := by
  refine returnsInHanded_of_change (C := Try.checked) own started (by kernel_rfl) Try.func7
    (ChangeSpec.witness6 (enc := enc) (C := Try.checked) false ⟨#[], #[.slice none 0 0, .slice none 0 0], []⟩ 8 (by kernel_rfl) (by kernel_rfl) (by kernel_rfl) (by kernel_rfl)) ?_
  intro W base args ds gs before hval0 hW _ _
  have hval : ∀ (j : Nat) t v, Try.f7.params[j]? = some t → args[j]? = some v → Value.okWide Try.prog W .any base t v := hval0
  have hW' := hW
  obtain ⟨p, q, hA0, hV, rfl, hfz, hnd⟩ := hW
  have hA1 : DataW.TrodAll enc Try.prog W 0 (fun _ => true) true Try.f7.params.toList args.toList ds p := hA0
  have hA := hA1
  rw [Try.params7] at hA hval
  obtain ⟨v0, vs0, d0, ds0, p0, q0, hargs0, rfl, -, h0, r0⟩ := trodAll_cons hA
  obtain ⟨v1, vs1, d1, ds1, p1, q1, hargs1, rfl, -, h1, r1⟩ := trodAll_cons r0
  obtain ⟨rfl, rfl, -⟩ := trodAll_nil r1
  obtain rfl : args = #[v0, v1] := by cases args; simp_all
  obtain ⟨rfl, rfl⟩ := trodVars_none hV
  obtain ⟨A0, cap0, bs0, rfl, hl0, hc0, hz0, hI0⟩ := open_bytesZ (hval 0 36 v0 rfl rfl) h0
  obtain ⟨A1, cap1, bs1, rfl, hl1, hc1, hz1, hI1⟩ := open_bytesZ (hval 1 36 v1 rfl rfl) h1
  clear hval0
  simp only [List.append_nil] at hW'
  refine (walk A0 cap0 bs0 A1 cap1 bs1 hl0 hc0 hz0 hl1 hc1 hz1 W (Lib.hid hI0) (Lib.hid hI1)).mono fun e W' ⟨he, hg⟩ => ?_
  subst he
  exact ⟨_, rfl, post_of_nb (pa := p) (pv := []) hW' (fun _ _ _ => (trodAll_cons_mk (shut_bool Try.underlying4 _) trodAll_mk0))
    (fun sp hsp => args_stay (by kernel_rfl) hg hA1 (fun t ht => by
      have h0 : (Try.f7.params.toList.all fun t => Try.prog.readableRec t && decide (t < Try.prog.types.size)) = true := by kernel_rfl
      have h1 := List.all_eq_true.1 h0 t ht
      rw [Bool.and_eq_true, decide_eq_true_eq] at h1
      exact h1) (fun x hx => hW'.lt x hx) hsp)
    (fun _ _ => rfl) (by simp) hg (ok_one (by kernel_rfl) rfl (okWide_bool_mk Try.underlying4 _))⟩
theorem over : Rows.lexPartsRow.holds Try.pinned (OpenSpec.ofChange Rows.lexPartsSpec) :=
  OpenClaim.holds_of_wide 7 Try.f7 rfl rfl rfl rfl rfl rfl rfl ⟨rfl, rfl, rfl, rfl, rfl⟩ rfl rfl rfl rfl rfl (by kernel_rfl) Try.func7 (by kernel_rfl)
    (of_decide_eq_true (by kernel_rfl)) (by unfold Func.isWrapper; first | (rw [if_pos (by decide +kernel)]; kernel_rfl) | (rw [if_neg (by decide +kernel)]; exact ⟨rfl, rfl⟩))
    (fun os started H enc _ => lifted os started H enc)
/-- The statement. -/
theorem proved : Rows.LexPartsSaid := over
#print axioms proved
end Go.Proofs.Yticifolljhplmaa.lexParts
