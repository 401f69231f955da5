/-
  Proved here: rows of integers, their copies; slices without spare room. Conditions: stated in each.
-/
import Derived.Test.YtchcfjlkgnlnoaaPa
import Derived.Laws.EntriesVeiled
namespace Go.Proofs.Ytchcfjlkgnlnoaa
open Go.RowKit Go.ChangeMaps
set_option linter.unusedVariables false
set_option linter.unusedSimpArgs false
set_option maxRecDepth 100000
set_option maxHeartbeats 4000000
abbrev iL (xs : List Int) : List Value := xs.map (.int .i64 ·)
@[simp] theorem iL_len (xs : List Int) : (iL xs).length = xs.length := by simp [iL]
theorem infoI : (Try.prog.info? 3).map (fun i => (i.zero, i.size, i.bytes)) = some (some (.int .i64 0), 1, 8) := by kernel_rfl
theorem partsI : ∃ i, Try.prog.info? 3 = some i ∧ i.zero = some (.int .i64 0) ∧ i.size = 1 ∧ i.bytes = 8 := by
  have h := infoI
  cases hq : Try.prog.info? 3 with
  | none => rw [hq] at h; cases h
  | some i =>
    rw [hq] at h
    simp only [Option.map_some, Option.some.injEq, Prod.mk.injEq] at h
    exact ⟨i, rfl, h.1, h.2.1, h.2.2⟩
theorem own_nbI {w w' : World} {b n : Nat} {v : Value} {xs : List Value} (h : w.ownsRow b 3 1 v n xs) (hn : Nb w w') : w'.ownsRow b 3 1 v n xs :=
  h.kept (row := none) ⟨hn.os, hn.tape, hn.output, hn.size, fun k hk _ => Below.block hn k hk⟩ (by cases v.ownBlock <;> simp)
theorem own_some {w : World} {base n : Nat} {v : Value} {xs : List Value} {e : TypeId} {s : Nat} (h : w.ownsRow base e s v n xs) (hn : 0 < n) : ∃ g c, v = .slice (some ⟨g, 0, none⟩) n c ∧ n ≤ c := by
  rcases h.2 with ⟨_, rfl⟩ | ⟨g, cap, cur, rfl, _, _, hc, _⟩
  · omega
  · exact ⟨g, cap, rfl, hc⟩
theorem own_slice {w : World} {base n : Nat} {v : Value} {xs : List Value} {e : TypeId} {s : Nat} (h : w.ownsRow base e s v n xs) : ∃ B c, v = .slice B n c := by
  rcases h.2 with ⟨rfl, rfl⟩ | ⟨g, cap, cur, rfl, _, _, hc, _⟩
  · exact ⟨none, 0, rfl⟩
  · exact ⟨_, cap, rfl⟩
theorem row_ne {w : World} {base n lb : Nat} {v : Value} {xs : List Value} {cs : Array Value} {t : TypeId} {fr : Nat × Nat} {e : TypeId} {s : Nat} (h : w.ownsRow base e s v n xs) (hb : w.heap[lb]? = some (.cells cs t fr)) (ht : t ≠ e) : some lb ≠ v.ownBlock := by
  intro e
  rcases h.2 with ⟨rfl, rfl⟩ | ⟨g, cap, cur, rfl, _, hg, _⟩
  · simp [Value.ownBlock] at e
  · simp only [Value.ownBlock, Option.some.injEq] at e
    subst e
    rw [hg] at hb
    simp only [Option.some.injEq, Obj.cells.injEq] at hb
    exact ht hb.2.1.symm
/-- A slice of integers. -/
abbrev IntR (w : World) (v : Value) (xs : List Int) : Prop := RowS w 1 v (xs.map fun x => [.int .i64 x])
theorem int_news {w : World} {b o m c : Nat} {xs : List Int} (h : IntR w (.slice (some ⟨b, o, none⟩) m c) xs) : ∀ j u, (iL xs)[j]? = some u → w.cell? ((⟨b, o, none⟩ : Addr).add j) = some u := by
  intro j u hu
  rw [List.getElem?_map, Option.map_eq_some_iff] at hu
  obtain ⟨x, hx, rfl⟩ := hu
  obtain ⟨b', o', he, hr⟩ := h.at_ (i := j) (r := [.int .i64 x]) (by rw [List.getElem?_map, hx]; rfl)
  cases he
  have := hr 0 _ rfl
  rw [Nat.mul_one, Nat.add_zero] at this
  rw [Addr.add_mid]
  exact this
theorem own_ints {w : World} {base : Nat} {B : Option Addr} {n c : Nat} {xs : List Int} (h : w.ownsRow base 3 1 (.slice B n c) n (iL xs)) (hn : xs.length = n) : IntR w (.slice B n n) xs := by
  subst hn
  rcases h.2 with ⟨h0, h1⟩ | ⟨g, cap, cur, h0, _, hg, hnc, hcm, _, _⟩
  · simp only [Value.slice.injEq] at h0
    obtain ⟨rfl, -, rfl⟩ := h0
    have hx : xs = [] := List.eq_nil_of_length_eq_zero h1
    subst hx
    exact ⟨none, 0, rfl, Nat.le_refl _, by simp, fun _ => rfl, fun i r hi => by simp at hi⟩
  · simp only [Value.slice.injEq, true_and] at h0
    obtain ⟨rfl, rfl⟩ := h0
    refine ⟨some ⟨g, 0, none⟩, xs.length, by simp, by simp, by simp; unfold maxLen at hcm; omega, (fun h => nomatch h), fun i r hi => ⟨g, 0, rfl, fun j u hu => ?_⟩⟩
    rw [List.getElem?_map, Option.map_eq_some_iff] at hi
    obtain ⟨x, hx, rfl⟩ := hi
    have hlt := (List.getElem?_eq_some_iff.1 hx).1
    cases j with
    | succ j => simp at hu
    | zero =>
      simp only [List.getElem?_cons_zero, Option.some.injEq] at hu
      subst hu
      rw [show 0 + i * 1 + 0 = i by omega, h.cellAt i (by omega), List.getElem?_map, hx]
      rfl
theorem own_intR {w : World} {base : Nat} {v : Value} {xs : List Int} (h : w.ownsRow base 3 1 v xs.length (iL xs)) : IntR w v xs := by
  obtain ⟨B, c, rfl⟩ := own_slice h
  rcases h.2 with ⟨h0, h1⟩ | ⟨g, cap, cur, h0, _, hg, hnc, hcm, _, _⟩
  · simp only [Value.slice.injEq] at h0
    obtain ⟨rfl, -, rfl⟩ := h0
    have hx : xs = [] := List.eq_nil_of_length_eq_zero h1
    subst hx
    exact ⟨none, 0, rfl, Nat.le_refl _, by simp, fun _ => rfl, fun i r hi => by simp at hi⟩
  · simp only [Value.slice.injEq, true_and] at h0
    obtain ⟨rfl, rfl⟩ := h0
    refine ⟨some ⟨g, 0, none⟩, c, by simp, by simpa using hnc, by simp; unfold maxLen at hcm; omega, (fun h => nomatch h), fun i r hi => ⟨g, 0, rfl, fun j u hu => ?_⟩⟩
    rw [List.getElem?_map, Option.map_eq_some_iff] at hi
    obtain ⟨x, hx, rfl⟩ := hi
    have hlt := (List.getElem?_eq_some_iff.1 hx).1
    cases j with
    | succ j => simp at hu
    | zero =>
      simp only [List.getElem?_cons_zero, Option.some.injEq] at hu
      subst hu
      rw [show 0 + i * 1 + 0 = i by omega, h.cellAt i (by omega), List.getElem?_map, hx]
      rfl
theorem clone_any (base : Nat) (v : Value) (xs : List Int) (w : World) (hv : IntR w v xs) (hl : xs.length ≤ 1000000) (hb : base ≤ w.heap.size) :
    Calls Try.prog 36 #[v] w fun r w' => ∃ v', r = .returned v' ∧ Nb w w' ∧ w'.ownsRow base 3 1 v' xs.length (iL xs) := by
  obtain ⟨i0, hi, hz0, hz1, hz2⟩ := partsI
  obtain ⟨A, c, rfl, hc, -, hA⟩ := hv.head
  rw [List.length_map] at hc hv ⊢
  cases A with
  | none =>
    have hc0 := hA rfl
    have hx : xs = [] := List.eq_nil_of_length_eq_zero (by omega)
    subst hx
    obtain rfl := hc0
    have hne : ∀ w, (binOp .eql 26 (.slice none 0 0) (.slice none 0 0)).run Try.prog w = .ok (.bool true) w := fun w => by
      have h : ∀ d : Nat, (Op.equalIn (d + 1) 26 (.slice none 0 0) (.slice none 0 0)).run Try.prog w = .ok true w := fun d => by simp [Op.equalIn, run_underlying Try.underlying26]
      simp only [binOp]
      simp [Op.equal, Op.maxDepth, h 9999]
    go_enter Try.func36, Try.ntmps36
    go_wp2
    go_ret
    exact ⟨_, rfl, Nb.refl _, World.ownsRow_nil _ _ _ _⟩
  | some a =>
    obtain ⟨n, hn⟩ : ∃ n, xs.length = n := ⟨_, rfl⟩
    rw [hn] at hc hv hl ⊢
    replace hn := Lib.hid hn
    replace hv := Lib.hid hv
    have ho0 : (w.alloc (Obj.cells #[] 3)).ownsRow base 3 1 (.slice (some ⟨w.heap.size, 0, none⟩) 0 0) 0 [] := World.ownsRow_made w #[] 0 hb (Nat.zero_le _) rfl
    have hne : ∀ w, (binOp .eql 26 (.slice (some a) n c) (.slice none 0 0)).run Try.prog w = .ok (.bool false) w := fun w => by
      have h : ∀ d : Nat, (Op.equalIn (d + 1) 26 (.slice (some a) n c) (.slice none 0 0)).run Try.prog w = .ok false w := fun d => by simp [Op.equalIn, run_underlying Try.underlying26]
      simp only [binOp]
      simp [Op.equal, Op.maxDepth, h 9999]
    go_enter Try.func36, Try.ntmps36
    go_upto_region 9 with (at_builtin; refine wpList_append_own _ rfl (.tmp 5) (.tmp 6) 26 rfl base 3 i0 (.int .i64 0) 1 8 Try.underlying26 hi hz0 hz1 hz2 rfl (by decide) (.slice (some ⟨w.heap.size, 0, none⟩) 0 0) 0 [] rfl ho0 a n c (iL xs) rfl ?c0 ?c1 ?c2 ?c3 ?c4 ?c5 ?_)
    case c0 => simp [hn.out]
    case c1 =>
      intro j u hu
      have hu2 := hu
      rw [List.getElem?_map, Option.map_eq_some_iff] at hu2
      obtain ⟨x, hx, -⟩ := hu2
      obtain ⟨b', o', he, -⟩ := hv.out.at_ (i := j) (r := [.int .i64 x]) (by rw [List.getElem?_map, hx]; rfl)
      cases he
      exact (alloc_nb' _ _).cell (int_news hv.out j u hu)
    case c2 =>
      intro u hu
      obtain ⟨x, -, rfl⟩ := List.mem_map.1 hu
      rfl
    case c3 => unfold maxLen; omega
    case c4 => omega
    case c5 => simp; omega
    intro v' w' ho' hg' hn'
    replace ho' : w'.ownsRow base 3 1 v' n (iL xs) := by simpa using ho'
    have nb' : Nb w w' := Below.grown (alloc_nb' w (Obj.cells #[] 3)) hg' (by simp) (fun k hk => by simp [Value.ownBlock] at hk; omega)
    clear hg' hn' hne ho0
    go_wp2_with fail
    go_ret
    exact ⟨_, rfl, nb', ho'⟩
theorem clipT (B : Option Addr) (n c : Nat) (hn : n ≤ c) (hz : B = none → c = 0) (w : World) : Calls Try.prog 56 #[.slice B n c] w fun r w' => r = .returned (.slice B n n) ∧ w = w' := by
  go_enter Try.func56, Try.ntmps56
  go_wp2
  go_ret
  exact ⟨rfl, rfl⟩
theorem clipS (B : Option Addr) (n c : Nat) (hn : n ≤ c) (hz : B = none → c = 0) (w : World) : Calls Try.prog 38 #[.slice B n c] w fun r w' => r = .returned (.slice B n n) ∧ w = w' := by
  go_enter Try.func38, Try.ntmps38
  go_wp2
  go_ret
  exact ⟨rfl, rfl⟩
theorem clipP (B : Option Addr) (n c : Nat) (hn : n ≤ c) (hz : B = none → c = 0) (w : World) : Calls Try.prog 39 #[.slice B n c] w fun r w' => r = .returned (.slice B n n) ∧ w = w' := by
  go_enter Try.func39, Try.ntmps39
  go_wp2
  go_ret
  exact ⟨rfl, rfl⟩
end Go.Proofs.Ytchcfjlkgnlnoaa
