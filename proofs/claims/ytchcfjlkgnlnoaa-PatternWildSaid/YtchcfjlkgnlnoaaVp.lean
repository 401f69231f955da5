/-
  Proved here: of the laws: how many parts a value has, and how deep it is. Conditions: the memory holds the value.
-/
import Derived.Test.YtchcfjlkgnlnoaaVb
import Derived.Test.YtchcfjlkgnlnoaaJd
namespace Go.Proofs.Ytchcfjlkgnlnoaa
open Go.RowKit Go.ChangeMaps
set_option linter.unusedVariables false
set_option linter.unusedSimpArgs false
set_option maxRecDepth 100000
set_option maxHeartbeats 4000000
mutual
def Vl.many : Vl → Nat → Nat
  | .mk _ _ _ l, left => Vl.manyL l left 1
def Vl.manyL : List Vl → Nat → Nat → Nat
  | [], _, n => n
  | x :: r, left, n => if left < n then n else Vl.manyL r left (n + x.many (left - n))
end
mutual
def Vl.deep : Vl → Nat → Nat
  | .mk _ _ _ l, left => if left = 0 then 0 else 1 + Vl.deepL l (left - 1)
def Vl.deepL : List Vl → Nat → Nat
  | [], _ => 0
  | x :: r, left => max (x.deep left) (Vl.deepL r left)
end
theorem Vl.many_eq (v : Vl) (left : Nat) : v.many left = Vl.manyL v.args left 1 := by
  cases v with | mk k n av l => simp only [Vl.many, Vl.args]
theorem Vl.deep_eq (v : Vl) (left : Nat) : v.deep left = if left = 0 then 0 else 1 + Vl.deepL v.args (left - 1) := by
  cases v with | mk k n av l => simp only [Vl.deep, Vl.args]
theorem manyL_le : ∀ (l : List Vl), (∀ x ∈ l, ∀ left, x.many left ≤ left + 1) → ∀ left n, n ≤ left + 1 → Vl.manyL l left n ≤ left + 1
  | [], _, left, n, h => by simpa [Vl.manyL] using h
  | x :: r, hx, left, n, h => by
    rw [Vl.manyL]
    split
    · exact h
    · have := hx x (List.mem_cons_self ..) (left - n)
      exact manyL_le r (fun y hy => hx y (List.mem_cons_of_mem _ hy)) left _ (by omega)
theorem many_le : ∀ (v : Vl) (left : Nat), v.many left ≤ left + 1 := by
  intro v
  induction v using Vl.ind with
  | h v ih =>
    intro left
    rw [Vl.many_eq]
    exact manyL_le v.args ih left 1 (by omega)
theorem deep_le : ∀ (v : Vl) (left : Nat), v.deep left ≤ left := by
  intro v
  induction v using Vl.ind with
  | h v ih =>
    intro left
    rw [Vl.deep_eq]
    split
    · omega
    · have key : ∀ (l : List Vl), (∀ x ∈ l, ∀ left, x.deep left ≤ left) → ∀ m, Vl.deepL l m ≤ m := by
        intro l
        induction l with
        | nil => intro _ m; simp [Vl.deepL]
        | cons x r ihl =>
          intro hx m
          have h1 := hx x (List.mem_cons_self ..) m
          have h2 := ihl (fun y hy => hx y (List.mem_cons_of_mem _ hy)) m
          simp only [Vl.deepL]
          omega
      have := key v.args ih (left - 1)
      omega
theorem manyL_step {l : List Vl} {i left n : Nat} {x : Vl} (h : l[i]? = some x) (hn : ¬ left < n) : Vl.manyL (l.drop i) left n = Vl.manyL (l.drop (i + 1)) left (n + x.many (left - n)) := by
  rw [drop_some h, Vl.manyL, if_neg hn]
theorem deepL_step {l : List Vl} {i m d : Nat} {x : Vl} (h : l[i]? = some x) : max d (Vl.deepL (l.drop i) m) = max (max d (x.deep m)) (Vl.deepL (l.drop (i + 1)) m) := by
  rw [drop_some h, Vl.deepL]
  omega
theorem many_any (W0 : World) : ∀ (v : Vl), v.Has W0 → ∀ (left : Nat), left ≤ 500 → ∀ w, Nb W0 w →
    Calls Try.prog 33 #[.agg v.cells.toArray, .int .i64 (left : Int)] w fun r w' => r = .returned (.int .i64 (v.many left : Int)) ∧ Nb w w' := by
  intro v
  induction v using Vl.ind with
  | h v ih =>
    intro hv left hle w hw
    obtain ⟨A, cap, hav, hcap, hlen, hA⟩ := hv.vls.head
    have hX := Lib.hid (show VlsHas W0 (.slice A v.args.length cap) v.args by rw [← hav]; exact hv.vls)
    have hcs : v.cells.toArray = #[.int .i64 v.kind, .int .i64 v.n, .slice A v.args.length cap] := by rw [← hav]; rfl
    rw [hcs]
    clear hcs
    obtain ⟨N, hN⟩ : ∃ N, v.args.length = N := ⟨_, rfl⟩
    have hNh := Lib.hid hN
    rw [hN] at hcap hlen hX hav ⊢
    clear hN hav
    obtain ⟨T, hT⟩ : ∃ T, v.many left = T := ⟨_, rfl⟩
    rw [hT]
    rw [Vl.many_eq] at hT
    have hR0 := Lib.hid (show Vl.manyL (v.args.drop 0) left 1 = T by rw [List.drop_zero]; exact hT)
    clear hT
    go_enter Try.func33, Try.ntmps33
    go_upto_region 1 with (fail)
    obtain ⟨W1, hW⟩ : ∃ W1, w.alloc (Obj.cells #[.int .i64 v.kind, .int .i64 v.n, .slice A N cap] 31) = W1 := ⟨_, rfl⟩
    have n1 : Nb w W1 := by rw [← hW]; exact (Nb.refl w).alloc _
    have b1 : W1.heap[w.heap.size]? = some (.cells #[.int .i64 v.kind, .int .i64 v.n, .slice A N cap] 31 (0, 0)) := by rw [← hW]; exact new_blk w _ rfl
    rw [hW]
    clear hW
    obtain ⟨V, hV⟩ : ∃ V, w.heap.size = V := ⟨_, rfl⟩
    rw [hV] at b1 ⊢
    clear hV
    have v2 := cell_of_row _ _ 2 _ _ _ b1
    have hw1 := hw.trans n1
    go_wp2_with fail
    clear v2
    go_loopw [5, 11] (fun sn si wr => ∃ i n : Nat, i ≤ N ∧ n ≤ left + 1 ∧ sn = .int .i64 n ∧ si = .int .i64 i ∧ Hid (Vl.manyL (v.args.drop i) left n = T) ∧ Nb W1 wr) (fun _ si _ => N - (intOf si).toNat)
    case atStart => exact ⟨0, 1, Nat.zero_le _, by omega, rfl, rfl, hR0, Nb.refl _⟩
    case round =>
      obtain ⟨i, n, hi, hn, rfl, rfl, hR, hg⟩ := hrel
      clear hR0
      by_cases hlt : i < N
      · have hlt2 : (i : Int) < (N : Int) := by omega
        obtain ⟨x, hx⟩ : ∃ x, v.args[i]? = some x := ⟨_, List.getElem?_eq_getElem (by rw [hNh.out]; exact hlt)⟩
        obtain ⟨b', o', rfl, ⟨y0, y1, y2⟩, hxh⟩ := hX.out.at_ hx
        have hnb := hw1.trans hg
        replace y0 := hnb.cell y0
        replace y1 := hnb.cell y1
        replace y2 := hnb.cell y2
        obtain ⟨Ax, cx, hax, -, -, -⟩ := hxh.vls.head
        obtain ⟨Lx, hLx⟩ : ∃ Lx, x.args.length = Lx := ⟨_, rfl⟩
        rw [hLx] at hax
        clear hLx
        have hcx : x.cells.toArray = #[.int .i64 x.kind, .int .i64 x.n, .slice Ax Lx cx] := by rw [← hax]; rfl
        rw [hax] at y2
        clear hax
        by_cases hgt : left < n
        · have hgt2 : (left : Int) < (n : Int) := by omega
          have hend : n = T := by
            rw [← hR.out, drop_some hx, Vl.manyL, if_pos hgt]
          subst hend
          clear hR hx hxh hcx
          go_wp2_with fail
          go_ret
          exact ⟨rfl, n1.trans (hg.trans (alloc_nb' _ _))⟩
        · have hgt2 : ¬ (left : Int) < (n : Int) := by omega
          obtain ⟨mx, hmx⟩ : ∃ m, x.many (left - n) = m := ⟨_, rfl⟩
          have hml : mx ≤ left - n + 1 := by rw [← hmx]; exact many_le _ _
          have hRn : Hid (Vl.manyL (v.args.drop (i + 1)) left (n + mx) = T) := Lib.hid (by rw [← hR.out, manyL_step hx hgt, hmx])
          have hcall : Hid (∀ W', Nb wr W' → Calls Try.prog 33 #[.agg #[.int .i64 x.kind, .int .i64 x.n, .slice Ax Lx cx], .int .i64 ((left : Int) - (n : Int))] W' (fun r w' => r = .returned (.int .i64 (mx : Int)) ∧ Nb W' w')) := Lib.hid (fun W' n' => by
            rw [← hcx, show (left : Int) - (n : Int) = ((left - n : Nat) : Int) by omega, ← hmx]
            exact ih x (List.mem_of_getElem? hx) hxh (left - n) (by omega) W' (hnb.trans n'))
          clear hR hx hxh hcx hmx
          go_wp2_with (go_at_call 33; refine (hcall.out _ (alloc_nb' _ _)).mono ?_; rintro r w4 ⟨rfl, n4⟩)
          all_goals exact ⟨⟨i + 1, n + mx, by omega, by omega, (by first | rfl | simp), by simp, hRn, hg.trans ((alloc_nb' _ _).trans n4)⟩, by simp [intOf] <;> omega⟩
      · obtain rfl : i = N := by omega
        have hend : n = T := by rw [← hR.out, List.drop_eq_nil_of_le (by rw [hNh.out]; exact Nat.le_refl _)]; rfl
        subst hend
        clear hR
        go_wp2_with fail
        go_ret
        exact ⟨rfl, n1.trans hg⟩
theorem deep_any (W0 : World) : ∀ (v : Vl), v.Has W0 → ∀ (left : Nat), left ≤ 100 → ∀ w, Nb W0 w →
    Calls Try.prog 34 #[.agg v.cells.toArray, .int .i64 (left : Int)] w fun r w' => r = .returned (.int .i64 (v.deep left : Int)) ∧ Nb w w' := by
  intro v
  induction v using Vl.ind with
  | h v ih =>
    intro hv left hle w hw
    obtain ⟨A, cap, hav, hcap, hlen, hA⟩ := hv.vls.head
    have hX := Lib.hid (show VlsHas W0 (.slice A v.args.length cap) v.args by rw [← hav]; exact hv.vls)
    have hcs : v.cells.toArray = #[.int .i64 v.kind, .int .i64 v.n, .slice A v.args.length cap] := by rw [← hav]; rfl
    rw [hcs]
    clear hcs
    obtain ⟨N, hN⟩ : ∃ N, v.args.length = N := ⟨_, rfl⟩
    have hNh := Lib.hid hN
    rw [hN] at hcap hlen hX hav ⊢
    clear hN hav
    by_cases h0 : left = 0
    · subst h0
      rw [Vl.deep_eq, if_pos rfl]
      go_enter Try.func34, Try.ntmps34
      go_wp2_with fail
      go_ret
      exact ⟨rfl, (Nb.refl w).alloc _⟩
    have h0i : ¬ (left : Int) = 0 := by omega
    have h0b : ((left : Int) == 0) = false := by simpa using h0i
    obtain ⟨T, hT⟩ : ∃ T, Vl.deepL v.args (left - 1) = T := ⟨_, rfl⟩
    have hTl : T ≤ left := by have := deep_le v left; rw [Vl.deep_eq, if_neg h0, hT] at this; omega
    rw [Vl.deep_eq, if_neg h0, hT]
    have hR0 := Lib.hid (show max 0 (Vl.deepL (v.args.drop 0) (left - 1)) = T by rw [List.drop_zero, hT]; omega)
    clear hT
    go_enter Try.func34, Try.ntmps34
    go_upto_region 1 with (fail)
    obtain ⟨W1, hW⟩ : ∃ W1, w.alloc (Obj.cells #[.int .i64 v.kind, .int .i64 v.n, .slice A N cap] 31) = W1 := ⟨_, rfl⟩
    have n1 : Nb w W1 := by rw [← hW]; exact (Nb.refl w).alloc _
    have b1 : W1.heap[w.heap.size]? = some (.cells #[.int .i64 v.kind, .int .i64 v.n, .slice A N cap] 31 (0, 0)) := by rw [← hW]; exact new_blk w _ rfl
    rw [hW]
    clear hW
    obtain ⟨V, hV⟩ : ∃ V, w.heap.size = V := ⟨_, rfl⟩
    rw [hV] at b1 ⊢
    clear hV
    have v2 := cell_of_row _ _ 2 _ _ _ b1
    have hw1 := hw.trans n1
    go_wp2_with fail
    clear v2
    go_loopw [5, 13] (fun sd si wr => ∃ i d : Nat, i ≤ N ∧ d ≤ left ∧ sd = .int .i64 d ∧ si = .int .i64 i ∧ Hid (max d (Vl.deepL (v.args.drop i) (left - 1)) = T) ∧ Nb W1 wr) (fun _ si _ => N - (intOf si).toNat)
    case atStart => exact ⟨0, 0, Nat.zero_le _, Nat.zero_le _, rfl, rfl, hR0, Nb.refl _⟩
    case round =>
      obtain ⟨i, d, hi, hd, rfl, rfl, hR, hg⟩ := hrel
      clear hR0
      by_cases hlt : i < N
      · have hlt2 : (i : Int) < (N : Int) := by omega
        obtain ⟨x, hx⟩ : ∃ x, v.args[i]? = some x := ⟨_, List.getElem?_eq_getElem (by rw [hNh.out]; exact hlt)⟩
        obtain ⟨b', o', rfl, ⟨y0, y1, y2⟩, hxh⟩ := hX.out.at_ hx
        have hnb := hw1.trans hg
        replace y0 := hnb.cell y0
        replace y1 := hnb.cell y1
        replace y2 := hnb.cell y2
        obtain ⟨Ax, cx, hax, -, -, -⟩ := hxh.vls.head
        obtain ⟨Lx, hLx⟩ : ∃ Lx, x.args.length = Lx := ⟨_, rfl⟩
        rw [hLx] at hax
        clear hLx
        have hcx : x.cells.toArray = #[.int .i64 x.kind, .int .i64 x.n, .slice Ax Lx cx] := by rw [← hax]; rfl
        rw [hax] at y2
        clear hax
        obtain ⟨dx, hdx⟩ : ∃ m, x.deep (left - 1) = m := ⟨_, rfl⟩
        have hdl : dx ≤ left - 1 := by rw [← hdx]; exact deep_le _ _
        have hcall : Hid (∀ W', Nb wr W' → Calls Try.prog 34 #[.agg #[.int .i64 x.kind, .int .i64 x.n, .slice Ax Lx cx], .int .i64 ((left : Int) - 1)] W' (fun r w' => r = .returned (.int .i64 (dx : Int)) ∧ Nb W' w')) := Lib.hid (fun W' n' => by
          rw [← hcx, show (left : Int) - 1 = ((left - 1 : Nat) : Int) by omega, ← hdx]
          exact ih x (List.mem_of_getElem? hx) hxh (left - 1) (by omega) W' (hnb.trans n'))
        by_cases hdd : d < dx
        · have hdi : (d : Int) < (dx : Int) := by omega
          have hRn : Hid (max dx (Vl.deepL (v.args.drop (i + 1)) (left - 1)) = T) := Lib.hid (by rw [← hR.out, deepL_step hx, hdx]; omega)
          clear hR hx hxh hcx hdx
          go_wp2_with (go_at_call 34; refine (hcall.out _ (alloc_nb' _ _)).mono ?_; rintro r w4 ⟨rfl, n4⟩)
          all_goals exact ⟨⟨i + 1, dx, by omega, by omega, rfl, by simp, hRn, hg.trans ((alloc_nb' _ _).trans n4)⟩, by simp [intOf] <;> omega⟩
        · have hdi : ¬ (d : Int) < (dx : Int) := by omega
          have hRn : Hid (max d (Vl.deepL (v.args.drop (i + 1)) (left - 1)) = T) := Lib.hid (by rw [← hR.out, deepL_step hx, hdx]; omega)
          clear hR hx hxh hcx hdx
          go_wp2_with (go_at_call 34; refine (hcall.out _ (alloc_nb' _ _)).mono ?_; rintro r w4 ⟨rfl, n4⟩)
          all_goals exact ⟨⟨i + 1, d, by omega, by omega, rfl, by simp, hRn, hg.trans ((alloc_nb' _ _).trans n4)⟩, by simp [intOf] <;> omega⟩
      · obtain rfl : i = N := by omega
        have hend : d = T := by have := hR.out; rw [List.drop_eq_nil_of_le (by rw [hNh.out]; exact Nat.le_refl _)] at this; simpa [Vl.deepL] using this
        subst hend
        clear hR
        go_wp2_with fail
        go_ret
        exact ⟨retI (show (d : Int) + 1 = ((1 + d : Nat) : Int) by omega), n1.trans hg⟩
end Go.Proofs.Ytchcfjlkgnlnoaa
