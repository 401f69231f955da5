/-
  Proved here: slices.Index, slices.Contains at ints, and onA of the code. Conditions: the pointers point at operations.
-/
import Derived.Test.YticifolljhplmaaYd
namespace Go.Proofs.Yticifolljhplmaa
open Go.RowKit
set_option linter.unusedVariables false
set_option linter.unusedSimpArgs false
set_option maxRecDepth 100000
set_option maxHeartbeats 4000000
/-- Is a number in a list? -/
def hasI (xs : List Int) (x : Int) : Bool := xs.contains x
theorem index_any (v : Value) (xs : List Int) (x : Int) (w : World) (h : IntsR w v xs) (hb : xs.length ≤ 4611686018427387904) :
    Calls Try.prog 66 #[v, .int .i64 x] w fun e w' => (∃ r : Int, e = .returned (.int .i64 r) ∧ decide (0 ≤ r) = hasI xs x) ∧ w = w' := by
  obtain ⟨p, c, rfl⟩ := h.cases
  have hX : ∀ i : Nat, i < xs.length → ∃ (b o : Nat) (y : Int), p = some ⟨b, o, none⟩ ∧ xs[i]? = some y ∧ w.cell? ⟨b, o + i, none⟩ = some (.int .i64 y) ∧ xs.length ≤ c := by
    intro i hi
    rcases h with ⟨e, rfl⟩ | ⟨b, o, c', e, -, hc, hx⟩
    · simp at hi
    · injection e with e1 e2 e3
      subst e1 e3
      exact ⟨b, o, xs[i], rfl, by simp [hi], hx i _ (by simp [hi]), hc⟩
  have hX' := Lib.hid hX
  obtain ⟨n, hn⟩ : ∃ n, xs.length = n := ⟨_, rfl⟩
  rw [hn] at hb ⊢
  have hn' := Lib.hid hn
  clear h hX hn
  go_enter Try.func66, Try.ntmps66
  go_wp2_with fail
  go_loopw [8] (fun i wr => ∃ k : Nat, k ≤ n ∧ i = .int .i64 k ∧ Hid (∀ j : Nat, j < k → xs[j]? ≠ some x) ∧ wr = w) (fun i _ => n - (intOf i).toNat)
  case atStart => exact ⟨0, Nat.zero_le _, rfl, Lib.hid (by simp), rfl⟩
  case round =>
    obtain ⟨k, hk, rfl, hG, rfl⟩ := hrel
    by_cases hlt : k < n
    · obtain ⟨b, o, y, rfl, hy, hc, hcap⟩ := hX'.out k (by rw [hn'.out]; exact hlt)
      have hy' := Lib.hid hy
      clear hy
      have hcap' : k < c := by have := hn'.out; omega
      by_cases hxy : x = y
      · subst hxy
        go_wp2_with fail
        go_ret
        refine ⟨⟨k, rfl, ?_⟩, rfl⟩
        have := List.mem_of_getElem? hy'.out
        unfold hasI
        rw [List.contains_eq_mem]
        simp [this]
      · have hxy' : (x == y) = false := by simpa using hxy
        go_wp2_with fail
        have e1 : IntKind.i64.wrap ((k : Int) + 1) = ((k + 1 : Nat) : Int) := by rw [IntKind.wrap_i64]; omega
        go_roundw
        case rel =>
          refine ⟨k + 1, hlt, by simp, Lib.hid ?_, by simp⟩
          intro j hj
          by_cases hjk : j = k
          · subst hjk; rw [hy'.out]; simpa using fun e => hxy e.symm
          · exact hG.out j (by omega)
        case measure => simp [intOf, e1]; omega
    · have hkn : k = n := by omega
      subst hkn
      go_wp2_with fail
      go_ret
      refine ⟨⟨-1, rfl, ?_⟩, rfl⟩
      have : ¬ x ∈ xs := by
        intro hm
        obtain ⟨j, hj, e⟩ := List.mem_iff_getElem.1 hm
        exact hG.out j (by rw [← hn'.out]; exact hj) (by rw [List.getElem?_eq_getElem hj, e])
      unfold hasI
      rw [List.contains_eq_mem]
      simp [this]
theorem contains_any (v : Value) (xs : List Int) (x : Int) (w : World) (h : IntsR w v xs) (hb : xs.length ≤ 4611686018427387904) :
    Calls Try.prog 63 #[v, .int .i64 x] w fun e w' => e = .returned (.bool (hasI xs x)) ∧ w = w' := by
  have hI := index_any v xs x w h hb
  go_enter Try.func63, Try.ntmps63
  go_wp2_with (go_at_call 66; refine hI.mono ?_; rintro e w' ⟨⟨r, rfl, hr⟩, rfl⟩)
  go_ret
  rw [← hr]
  exact ⟨rfl, rfl⟩
/-- A pair of operations: a, b, and what stands between, as a value. -/
def pairV (ab ao bb bo : Nat) (v : Value) : Value := .agg #[.pointer (some ⟨ab, ao, none⟩), .pointer (some ⟨bb, bo, none⟩), v]
theorem onA_any (ab ao bb bo : Nat) (v : Value) (d : OpD) (u : Value) (xs : List Int) (w : World) (ha : OpAt w ab ao d) (hu : IntsR w u xs) (hb : xs.length ≤ 4611686018427387904) (hv : v.oneCell' = true) :
    Calls Try.prog 55 #[pairV ab ao bb bo v, u] w fun e w' => e = .returned (.bool (hasI xs d.id)) ∧ Nb w w' := by
  have hc := ha.c0
  have hlt := ha.lt
  have hC := fun w1 k => contains_any u xs d.id w1 (hu.nb k) hb
  obtain ⟨p, c, hpc⟩ := hu.cases
  subst hpc
  unfold pairV
  generalize d.id = x at *
  clear ha hu
  go_enter Try.func55, Try.ntmps55
  have n0 : Nb w (w.alloc (.cells #[.pointer (some ⟨ab, ao, none⟩), .pointer (some ⟨bb, bo, none⟩), v] 67)) := (Nb.refl w).alloc _
  go_wp2_with (go_at_call 63; refine (hC _ n0).mono ?_; rintro e w' ⟨rfl, rfl⟩)
  go_ret
  exact ⟨rfl, n0⟩
end Go.Proofs.Yticifolljhplmaa
