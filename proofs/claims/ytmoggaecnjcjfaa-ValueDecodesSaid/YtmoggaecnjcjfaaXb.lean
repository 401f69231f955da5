/-
  Proved here: the value of a word that is no tuple's, and the words of a tuple's parts, the code's. Conditions: the memory holds the words.
-/
import Derived.Test.YtmoggaecnjcjfaaXa
namespace Go.Proofs.Ytmoggaecnjcjfaa
open Go.RowKit Go.ChangeMaps
set_option linter.unusedVariables false
set_option linter.unusedSimpArgs false
set_option maxRecDepth 100000
set_option maxHeartbeats 4000000
def leafV : Rs → Value
  | .bad e => .tuple #[.agg #[.int .i64 0, .int .i64 0, .slice none 0 0], .int .i64 e]
  | .good (.mk k n _) => .tuple #[.agg #[.int .i64 k, .int .i64 n, .slice none 0 0], .int .i64 0]
theorem set3_all' {w : World} {S : Nat} {a b c x y z : Value} {t : TypeId} (h : w.heap[S]? = some (.cells #[a, b, c] t (0, 0))) : (((w.setCell ⟨S, 0, none⟩ x).setCell ⟨S, 1, none⟩ y).setCell ⟨S, 2, none⟩ z).heap[S]? = some (.cells #[x, y, z] t (0, 0)) := by
  have h2 := heap_setCell_same w S 0 _ _ x h
  have h3 := heap_setCell_same _ S 1 _ _ y h2
  have h4 := heap_setCell_same _ S 2 _ _ z h3
  simpa using h4
theorem valueOf_any (w : Int) (h0 : 0 ≤ w) (h1 : w < 18446744073709551616) (hw : w % 4 ≠ 1) (W : World) : Calls Try.prog 39 #[.int .u64 w] W fun r w' => r = .returned (leafV (leafR w)) ∧ Nb W w' := by
  have ha := and_three w h0 h1
  obtain ⟨T, hT⟩ : ∃ T, leafR w = T := ⟨_, rfl⟩
  rw [hT]
  unfold leafR at hT
  by_cases e0 : w % 4 = 0
  · rw [if_pos e0] at hT
    subst hT
    rw [e0] at ha
    go_enter Try.func39, Try.ntmps39
    go_wp2
    refine bodyPost_ret (results_rt rfl _ _ W.heap.size _ rfl (run_loadVar_row _ _ _ _ _ _ _ (new_blk _ _ rfl) Try.underlying24 rfl (by kernel_rfl))) rfl ⟨?_, alloc_nb' _ _⟩
    rfl
  · rw [if_neg e0] at hT
    by_cases e3 : w % 4 = 3
    · rw [e3] at ha hT
      by_cases hb : 1048575 < w / 4
      · rw [if_pos hb] at hT
        subst hT
        go_enter Try.func39, Try.ntmps39
        go_wp2
        refine bodyPost_ret (results_rt rfl _ _ W.heap.size _ rfl (run_loadVar_row _ _ _ _ _ _ _ (new_blk _ _ rfl) Try.underlying24 rfl (by kernel_rfl))) rfl ⟨?_, alloc_nb' _ _⟩
        rfl
      · rw [if_neg hb, if_pos rfl] at hT
        have hv := Lib.hid (show leafV (.good (.mk 3 (w / 4) [])) = leafV T by rw [← hT])
        clear hT e0 e3
        have hr0 : 0 ≤ w / 4 := by omega
        have hr1 : w / 4 ≤ 1048575 := by omega
        go_enter Try.func39, Try.ntmps39
        go_wp2
        refine bodyPost_ret (results_rt rfl _ _ W.heap.size _ rfl (run_loadVar_row _ _ _ _ _ _ _ (new_blk _ _ rfl) Try.underlying24 rfl (by kernel_rfl))) rfl ⟨?_, alloc_nb' _ _⟩
        rw [← hv.out]
        rfl
    · have e2 : w % 4 = 2 := by omega
      rw [e2] at ha hT
      by_cases hb : 1048575 < w / 4
      · rw [if_pos hb] at hT
        subst hT
        go_enter Try.func39, Try.ntmps39
        go_wp2
        refine bodyPost_ret (results_rt rfl _ _ W.heap.size _ rfl (run_loadVar_row _ _ _ _ _ _ _ (new_blk _ _ rfl) Try.underlying24 rfl (by kernel_rfl))) rfl ⟨?_, alloc_nb' _ _⟩
        rfl
      · rw [if_neg hb, if_neg (by decide)] at hT
        have hv := Lib.hid (show leafV (.good (.mk 2 (w / 4) [])) = leafV T by rw [← hT])
        clear hT e0 e3 e2
        have hr0 : 0 ≤ w / 4 := by omega
        have hr1 : w / 4 ≤ 1048575 := by omega
        go_enter Try.func39, Try.ntmps39
        go_wp2
        refine bodyPost_ret (results_rt rfl _ _ W.heap.size _ rfl (run_loadVar_row _ _ _ _ _ _ _ (new_blk _ _ rfl) Try.underlying24 rfl (by kernel_rfl))) rfl ⟨?_, alloc_nb' _ _⟩
        rw [← hv.out]
        rfl
def PAns (xs : List Int) (bs at_ : Int) (W : World) (r : Ending) : Prop := (partsR xs bs at_ = none ∧ r = .returned (.tuple #[.slice none 0 0, .bool false])) ∨ ∃ ps v', partsR xs bs at_ = some ps ∧ r = .returned (.tuple #[v', .bool true]) ∧ WdsR W v' ps
theorem partsAt_any (xs : List Int) (bs at_ : Int) (hx : ∀ x ∈ xs, 0 ≤ x ∧ x < 18446744073709551616) (hl : xs.length ≤ 500) (hb0 : 0 ≤ bs) (hb1 : bs < 18446744073709551616) (h0 : 0 ≤ at_) (h1 : at_ < 18446744073709551616) (sv : Value) (W0 : World) (hv : WdsR W0 sv xs) (W : World) (hW : Nb W0 W) :
    Calls Try.prog 40 #[.int .u64 at_, sv, .int .u64 bs] W fun r w' => PAns xs bs at_ W0 r ∧ W = w' := by
  obtain ⟨A, c, rfl, hc, -, hA⟩ := hv.head
  rw [List.length_map] at hc hv ⊢
  obtain ⟨n, hn⟩ : ∃ n, xs.length = n := ⟨_, rfl⟩
  rw [hn] at hc hl hv ⊢
  by_cases e1 : at_ % 8 = 0
  · by_cases e2 : at_ < bs
    · have hP := Lib.hid (show partsR xs bs at_ = none by unfold partsR; rw [if_pos (.inr (.inl e2))])
      clear hv
      go_enter Try.func40, Try.ntmps40
      go_wp2
      go_ret2
      exact ⟨.inl ⟨hP.out, rfl⟩, rfl⟩
    · have e2b : bs ≤ at_ := by omega
      by_cases e3 : (at_ - bs) % 8 = 0
      · obtain ⟨k, hk⟩ : ∃ k : Nat, (at_ - bs) / 8 = (k : Int) := ⟨((at_ - bs) / 8).toNat, by omega⟩
        have hkn : ((at_ - bs) / 8).toNat = k := by omega
        have hd0 : 0 ≤ at_ - bs := by omega
        have hd1 : at_ - bs < 18446744073709551616 := by omega
        have hP : partsR xs bs at_ = if n ≤ k then none else if xs.getD k 0 < 1 ∨ 4 < xs.getD k 0 ∨ ((n - k - 1 : Nat) : Int) < xs.getD k 0 then none else some ((xs.drop (k + 1)).take (xs.getD k 0).toNat) := by
          unfold partsR
          rw [if_neg (by omega), hkn, hn]
        clear hkn e2
        by_cases e4 : n ≤ k
        · rw [if_pos e4] at hP
          replace hP := Lib.hid hP
          have e4i : (n : Int) ≤ (k : Int) := by omega
          clear hv
          go_enter Try.func40, Try.ntmps40
          go_wp2
          go_ret2
          exact ⟨.inl ⟨hP.out, rfl⟩, rfl⟩
        · rw [if_neg e4] at hP
          have e4i : ¬ (n : Int) ≤ (k : Int) := by omega
          have hlt : k < xs.length := by omega
          have hg : xs.getD k 0 = xs[k] := by simp [List.getD, hlt]
          rw [hg] at hP
          obtain ⟨m, hm⟩ : ∃ m, xs[k] = m := ⟨_, rfl⟩
          have hmr := hx _ (List.getElem_mem hlt)
          rw [hm] at hP hmr
          obtain ⟨b, o, rfl, hr⟩ := hv.at_ (i := k) (r := [.int .u64 m]) (by rw [List.getElem?_map, List.getElem?_eq_getElem hlt, hm]; rfl)
          have ck := hr 0 _ rfl
          rw [Nat.mul_one, Nat.add_zero] at ck
          replace ck := hW.cell ck
          have hck : k + 1 ≤ c := by omega
          by_cases e5 : m < 1 ∨ 4 < m ∨ ((n - k - 1 : Nat) : Int) < m
          · rw [if_pos e5] at hP
            replace hP := Lib.hid hP
            clear hv hr hx hg hm
            by_cases f1 : m < 1
            · clear e5
              go_enter Try.func40, Try.ntmps40
              go_wp2
              all_goals
                go_ret2
                exact ⟨.inl ⟨hP.out, rfl⟩, rfl⟩
            · by_cases f2 : 4 < m
              · clear e5
                go_enter Try.func40, Try.ntmps40
                go_wp2
                all_goals
                  go_ret2
                  exact ⟨.inl ⟨hP.out, rfl⟩, rfl⟩
              · have f3 : (n : Int) - ((k : Int) + 1) < m := by omega
                clear e5
                go_enter Try.func40, Try.ntmps40
                go_wp2
                all_goals
                  go_ret2
                  exact ⟨.inl ⟨hP.out, rfl⟩, rfl⟩
          · rw [if_neg e5] at hP
            obtain ⟨M, rfl⟩ : ∃ M : Nat, m = (M : Int) := ⟨m.toNat, by omega⟩
            rw [Int.toNat_natCast] at hP
            have hR : WdsR W0 (.slice (some ⟨b, o + (k + 1), none⟩) M (c - (k + 1))) ((xs.drop (k + 1)).take M) := by
              have hlen : ((xs.drop (k + 1)).take M).length = M := by simp; omega
              refine ⟨some ⟨b, o + (k + 1), none⟩, c - (k + 1), ?_, ?_, ?_, (fun h => by cases h), ?_⟩
              · rw [List.length_map, hlen]
              · rw [List.length_map, hlen]; omega
              · rw [List.length_map, hlen]; omega
              · intro i r hi
                rw [List.getElem?_map, Option.map_eq_some_iff] at hi
                obtain ⟨y, hy, rfl⟩ := hi
                rw [List.getElem?_take] at hy
                split at hy
                · rw [List.getElem?_drop] at hy
                  obtain ⟨b', o', hbo, hr'⟩ := hv.at_ (i := k + 1 + i) (r := [.int .u64 y]) (by rw [List.getElem?_map, hy]; rfl)
                  cases hbo
                  refine ⟨b, o + (k + 1), rfl, fun j u hu => ?_⟩
                  have := hr' j u hu
                  rw [show o + (k + 1) + i * 1 + j = o + (k + 1 + i) * 1 + j by omega]
                  exact this
                · cases hy
            have g1 : ¬ (M : Int) < 1 := by omega
            have g2 : ¬ 4 < (M : Int) := by omega
            have g3 : ¬ (n : Int) - ((k : Int) + 1) < (M : Int) := by omega
            have hne : ¬ c = k + 1 := by omega
            have g4 : M ≤ c - (k + 1) := by omega
            have g5 : M ≤ n - (k + 1) := by omega
            have g6 : k + 1 ≤ n := by omega
            replace hP := Lib.hid hP
            replace hR := Lib.hid hR
            clear hv hr hx hg hm e5
            go_enter Try.func40, Try.ntmps40
            go_wp2
            go_ret2
            exact ⟨.inr ⟨_, _, hP.out, rfl, hR.out⟩, rfl⟩
      · have hP := Lib.hid (show partsR xs bs at_ = none by unfold partsR; rw [if_pos (.inr (.inr e3))])
        have hd0 : 0 ≤ at_ - bs := by omega
        have hd1 : at_ - bs < 18446744073709551616 := by omega
        clear hv
        go_enter Try.func40, Try.ntmps40
        go_wp2
        go_ret2
        exact ⟨.inl ⟨hP.out, rfl⟩, rfl⟩
  · have hP := Lib.hid (show partsR xs bs at_ = none by unfold partsR; rw [if_pos (.inl e1)])
    clear hv
    go_enter Try.func40, Try.ntmps40
    go_wp2
    go_ret2
    exact ⟨.inl ⟨hP.out, rfl⟩, rfl⟩
end Go.Proofs.Ytmoggaecnjcjfaa
