/-
  Proved here: In and Ints of the reference, at ints. Conditions: none.
-/
import Derived.Test.YticifolljhplmaaYe
namespace Go.Proofs.Yticifolljhplmaa
open Go.RowKit
set_option linter.unusedVariables false
set_option linter.unusedSimpArgs false
set_option maxRecDepth 100000
set_option maxHeartbeats 4000000
theorem IntsR.at_ {w : World} {p : Option Addr} {n c : Nat} {xs : List Int} (h : IntsR w (.slice p n c) xs) (hn : xs.length = n) : ∀ i : Nat, i < n → ∃ (b o : Nat) (y : Int), p = some ⟨b, o, none⟩ ∧ xs[i]? = some y ∧ w.cell? ⟨b, o + i, none⟩ = some (.int .i64 y) ∧ n ≤ c := by
  subst hn
  intro i hi
  rcases h with ⟨e, rfl⟩ | ⟨b, o, c', e, -, hc, hx⟩
  · simp at hi
  · injection e with e1 e2 e3
    subst e1 e3
    exact ⟨b, o, xs[i], rfl, by simp [hi], hx i _ (by simp [hi]), hc⟩
theorem ints_any (v v' : Value) (xs ys : List Int) (w : World) (h : IntsR w v xs) (h' : IntsR w v' ys) (hb : xs.length ≤ 4611686018427387904) (hb' : ys.length ≤ 4611686018427387904) :
    Calls Try.prog 14 #[v, v'] w fun e w' => e = .returned (.bool (decide (xs = ys))) ∧ Nb w w' := by
  obtain ⟨p, c, rfl⟩ := h.cases
  obtain ⟨p', c', rfl⟩ := h'.cases
  have hX' := Lib.hid (h.at_ rfl)
  have hY' := Lib.hid (h'.at_ rfl)
  obtain ⟨n, hn⟩ : ∃ n, xs.length = n := ⟨_, rfl⟩
  obtain ⟨n', hn'⟩ : ∃ n', ys.length = n' := ⟨_, rfl⟩
  rw [hn] at hb hX' ⊢
  rw [hn'] at hb' hY' ⊢
  have hn1 := Lib.hid hn
  have hn2 := Lib.hid hn'
  clear h h' hn hn'
  go_enter Try.func14, Try.ntmps14
  by_cases hnn : n = n'
  · subst hnn
    go_wp2_with fail
    go_loopw [5] (fun i wr => ∃ k : Nat, k ≤ n ∧ i = .int .i64 k ∧ Hid (∀ j : Nat, j < k → xs[j]? = ys[j]?) ∧ Nb w wr) (fun i _ => n - (intOf i).toNat)
    case atStart => exact ⟨0, Nat.zero_le _, rfl, Lib.hid (by simp), Nb.refl w⟩
    case round =>
      obtain ⟨k, hk, rfl, hG, hN⟩ := hrel
      by_cases hlt : k < n
      · obtain ⟨b, o, y, rfl, hy, hc, hcap⟩ := hX'.out k hlt
        obtain ⟨b2, o2, y2, rfl, hy2, hc2, hcap2⟩ := hY'.out k hlt
        have hy' := Lib.hid hy
        have hy2' := Lib.hid hy2
        clear hy hy2
        have hd := hN.cell hc
        have hd2 := hN.cell hc2
        clear hc hc2
        have hcap' : k < c := by omega
        have hcap2' : k < c' := by omega
        by_cases hxy : y = y2
        · subst hxy
          go_upto_region 6 with (fail)
          go_quiet (fail)
          go_wp2_with fail
          have e1 : IntKind.i64.wrap ((k : Int) + 1) = ((k + 1 : Nat) : Int) := by rw [IntKind.wrap_i64]; omega
          go_roundw
          case rel =>
            refine ⟨k + 1, hlt, by simp, Lib.hid ?_, hN.drewN nq⟩
            intro j hj
            by_cases hjk : j = k
            · subst hjk; rw [hy'.out, hy2'.out]
            · exact hG.out j (by omega)
          case measure => simp [intOf, e1]; omega
        · have hxy' : (y == y2) = false := by simpa using hxy
          go_upto_region 6 with (fail)
          go_quiet (fail)
          go_wp2_with fail
          go_ret
          refine ⟨?_, hN.drewN nq⟩
          have : xs ≠ ys := by
            intro e
            subst e
            have := hy'.out.symm.trans hy2'.out
            injection this with this
            exact hxy this
          simp [this]
      · have hkn : k = n := by omega
        subst hkn
        go_wp2_with fail
        go_ret
        refine ⟨?_, hN⟩
        have : xs = ys := by
          apply List.ext_getElem?
          intro j
          by_cases hj : j < k
          · exact hG.out j hj
          · rw [List.getElem?_eq_none (by have := hn1.out; omega), List.getElem?_eq_none (by have := hn2.out; omega)]
        simp [this]
  · have hne : ((n : Int) == (n' : Int)) = false := by simp; omega
    go_wp2_with fail
    go_ret
    refine ⟨?_, Nb.refl w⟩
    have : xs ≠ ys := by
      intro e
      subst e
      exact hnn (hn1.out.symm.trans hn2.out)
    simp [this]
end Go.Proofs.Yticifolljhplmaa
