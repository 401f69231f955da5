/-
  Proved here: the closures of the statement on other names: what an ID is turned into, lists of IDs, whether one is great. Conditions: the numbers that they capture are there.
-/
import Derived.Test.YticifolljhplmaaZc
import Derived.Test.YticifolljhplmaaZd
import Derived.Test.YticifolljhplmaaYx
namespace Go.Proofs.Yticifolljhplmaa
open Go.RowKit
set_option linter.unusedVariables false
set_option linter.unusedSimpArgs false
set_option maxRecDepth 100000
set_option maxHeartbeats 4000000
theorem id_any (n k : Int) (B : Nat) (w : World) (hB : w.cell? ⟨B, 0, none⟩ = some (.int .i64 k)) (hn : n ≤ 1000) (k1 : 1 ≤ k) (k2 : k ≤ 1000) :
    Calls Try.prog 11 #[.int .i64 n, .pointer (some ⟨B, 0, none⟩)] w fun e w' => e = .returned (.int .i64 (renI k n)) ∧ w = w' := by
  obtain ⟨R, hR⟩ : ∃ R, renI k n = R := ⟨_, rfl⟩
  rw [hR]
  unfold renI at hR
  by_cases h0 : n < 0
  · rw [if_pos (by omega)] at hR
    subst hR
    go_enter Try.func11, Try.ntmps11
    go_wp2_with fail
    go_ret
    exact ⟨rfl, rfl⟩
  · rw [if_neg (by omega)] at hR
    have hR' := Lib.hid hR
    clear hR
    have e1 : IntKind.i64.wrap (3 * n) = 3 * n := by rw [IntKind.wrap_i64]; omega
    have e2 : IntKind.i64.wrap (2000 * k) = 2000 * k := by rw [IntKind.wrap_i64]; omega
    have e3 : IntKind.i64.wrap (3 * n + 2000 * k) = 3 * n + 2000 * k := by rw [IntKind.wrap_i64]; omega
    have h1 : ¬ 1000 < n := by omega
    go_enter Try.func11, Try.ntmps11
    go_wp2_with fail
    go_ret
    exact ⟨by rw [← hR'.out]; rfl, rfl⟩
/-- Is one of these above 1000? -/
def greatB (xs : List Int) : Bool := xs.any fun x => decide (1000 < x)
theorem great_any (v : Value) (xs : List Int) (w : World) (h : IntsR w v xs) (hb : xs.length ≤ 4611686018427387904) :
    Calls Try.prog 13 #[v] w fun e w' => e = .returned (.bool (greatB xs)) ∧ w = w' := by
  obtain ⟨p, c, rfl⟩ := h.cases
  have hX' := Lib.hid (h.at_ rfl)
  obtain ⟨n, hn⟩ : ∃ n, xs.length = n := ⟨_, rfl⟩
  rw [hn] at hb hX' ⊢
  have hn' := Lib.hid hn
  clear h hn
  go_enter Try.func13, Try.ntmps13
  go_wp2_with fail
  go_loopw [7] (fun i wr => ∃ k : Nat, k ≤ n ∧ i = .int .i64 k ∧ Hid (∀ (j : Nat) (x : Int), j < k → xs[j]? = some x → ¬ 1000 < x) ∧ wr = w) (fun i _ => n - (intOf i).toNat)
  case atStart => exact ⟨0, Nat.zero_le _, rfl, Lib.hid (by simp), rfl⟩
  case round =>
    obtain ⟨k, hk, rfl, hG, rfl⟩ := hrel
    by_cases hlt : k < n
    · obtain ⟨b, o, y, rfl, hy, hc, hcap⟩ := hX'.out k hlt
      have hy' := Lib.hid hy
      clear hy
      have hcap' : k < c := by omega
      by_cases hxy : 1000 < y
      · go_wp2_with fail
        go_ret
        refine ⟨?_, rfl⟩
        have := List.mem_of_getElem? hy'.out
        have h2 : greatB xs = true := List.any_eq_true.2 ⟨y, this, by simpa using hxy⟩
        rw [h2]; rfl
      · go_wp2_with fail
        have e1 : IntKind.i64.wrap ((k : Int) + 1) = ((k + 1 : Nat) : Int) := by rw [IntKind.wrap_i64]; omega
        go_roundw
        case rel =>
          refine ⟨k + 1, hlt, by simp, Lib.hid ?_, by simp⟩
          intro j x hj hx
          by_cases hjk : j = k
          · subst hjk
            rw [hy'.out] at hx
            cases hx
            exact hxy
          · exact hG.out j x (by omega) hx
        case measure => simp [intOf, e1]; omega
    · have hkn : k = n := by omega
      subst hkn
      go_wp2_with fail
      go_ret
      refine ⟨?_, rfl⟩
      have h2 : greatB xs = false := by
        unfold greatB
        rw [List.any_eq_false]
        intro x hx
        obtain ⟨j, hj, e⟩ := List.mem_iff_getElem.1 hx
        have := hG.out j x (by rw [← hn'.out]; exact hj) (by rw [List.getElem?_eq_getElem hj, e])
        simpa using this
      rw [h2]; rfl
theorem own_ge1 {w : World} {base s n : Nat} {t : TypeId} {v : Value} {xs : List Value} (h : w.ownsRow base t s v n xs) : ∀ r, v.ownBlock = some r → base ≤ r := own_ge h
/-- The list that the closure makes of one. -/
theorem ids_own (v : Value) (xs : List Int) (k : Int) (B kB : Nat) (w : World) (h : IntsR w v xs) (hb : xs.length ≤ 60) (hx : ∀ x ∈ xs, x ≤ 1000) (k1 : 1 ≤ k) (k2 : k ≤ 1000)
    (hF : w.cell? ⟨B, 0, none⟩ = some (.func (.func 11) #[] #[.pointer (some ⟨kB, 0, none⟩)])) (hK : w.cell? ⟨kB, 0, none⟩ = some (.int .i64 k)) :
    Calls Try.prog 12 #[v, .pointer (some ⟨B, 0, none⟩)] w fun e w' => ∃ u, e = .returned u ∧ w'.ownsRow w.heap.size 3 1 u (xs.map (renI k)).length ((xs.map (renI k)).map (Value.int .i64)) ∧ (u = .slice none 0 0 ↔ xs.map (renI k) = []) ∧ Nb w w' := by
  obtain ⟨p, c, rfl⟩ := h.cases
  have hX' := Lib.hid (h.at_ rfl)
  obtain ⟨i0, hi, hz0, hz1, hz2⟩ := info_parts info_int
  obtain ⟨n, hn⟩ : ∃ n, xs.length = n := ⟨_, rfl⟩
  rw [hn] at hb hX' ⊢
  have hn' := Lib.hid hn
  have hxh := Lib.hid hx
  have hmx : (200 : Nat) ≤ maxLen := by decide
  clear h hn hx
  go_enter Try.func12, Try.ntmps12
  go_wp2_with fail
  go_loopw [4, 9] (fun u i wr => ∃ q : Nat, q ≤ n ∧ i = .int .i64 q ∧ wr.ownsRow w.heap.size 3 1 u q (((xs.take q).map (renI k)).map (Value.int .i64)) ∧ Hid (u = .slice none 0 0 ↔ q = 0) ∧ Nb w wr) (fun _ i _ => n - (intOf i).toNat)
  case atStart => exact ⟨0, Nat.zero_le _, rfl, World.ownsRow_nil _ _ _ _, Lib.hid (by simp), Nb.refl w⟩
  case round =>
    obtain ⟨q, hq, rfl, hO, hG, hN⟩ := hrel
    by_cases hlt : q < n
    · obtain ⟨b, o, y, rfl, hy, hc, hcap⟩ := hX'.out q hlt
      have hy' := Lib.hid hy
      have y1 := hxh.out y (List.mem_of_getElem? hy)
      clear hy
      have hd := hN.cell hc
      have hF2 := hN.cell hF
      have hK2 := hN.cell hK
      have hcap' : q < c := by omega
      have hNs := hN.size
      have hOh := Lib.hid hO
      clear hc hO
      have e1 : IntKind.i64.wrap ((q : Int) + 1) = ((q + 1 : Nat) : Int) := by rw [IntKind.wrap_i64]; omega
      go_wp2_with (first
        | (go_at_call 11; refine (id_any y k kB _ hK2 y1 k1 k2).mono ?_; rintro e w' ⟨rfl, rfl⟩)
        | (at_builtin; refine wpList_append_own _ rfl (.tmp 13) (.tmp 17) 27 rfl w.heap.size 3 i0 (.int .i64 0) 1 8 Try.underlying27 hi hz0 hz1 hz2 rfl (by decide) _ _ _ rfl (hOh.out.alloc _) ⟨wr.heap.size, 0, none⟩ 1 1 [.int .i64 (renI k y)] rfl rfl (cell_one_new _ _ _) (by simp [Value.oneCell']) (by omega) (by omega) (by simp; omega) ?_; intro u' w1 hown' hgrow hnil; have hN1 : Nb w w1 := (hN.alloc (.cells #[.int .i64 (renI k y)] 3)).grown hgrow (own_ge1 hOh.out); have hownh := Lib.hid hown'; have hnilh := Lib.hid hnil; clear hown' hgrow hnil))
      go_roundw
      case rel =>
        refine ⟨q + 1, hlt, by simp, ?_, Lib.hid ?_, hN1⟩
        · have := hownh.out
          rw [List.take_add_one, hy'.out]
          simpa using this
        · rw [hnilh.out]
          simp
      case measure => simp [intOf, e1]; omega
    · have hqn : q = n := by omega
      subst hqn
      have hOh := Lib.hid hO
      clear hO
      go_wp2_with fail
      go_ret
      have ht : xs.take q = xs := List.take_of_length_le (by rw [hn'.out]; exact Nat.le_refl _)
      have h2 := hOh.out
      rw [ht] at h2
      have hl : (xs.map (renI k)).length = q := by rw [List.length_map, hn'.out]
      refine ⟨_, rfl, (by rw [hl]; exact h2), ?_, hN⟩
      refine hG.out.trans ?_
      rw [← List.length_eq_zero_iff, hl]
/-- A list of ints that was made above a place. -/
def NewI (B : Nat) (w : World) (u : Value) (xs : List Int) : Prop := w.ownsRow B 3 1 u xs.length (xs.map (Value.int .i64)) ∧ (u = .slice none 0 0 ↔ xs = [])
theorem NewI.nb {B : Nat} {w w' : World} {u : Value} {xs : List Int} (h : NewI B w u xs) (hn : Nb w w') : NewI B w' u xs :=
  ⟨h.1.kept (row := none) ⟨hn.os, hn.tape, hn.output, hn.size, fun k hk _ => Below.block hn k hk⟩ (by cases u.ownBlock <;> simp), h.2⟩
theorem NewI.set {B : Nat} {w : World} {u : Value} {xs : List Int} (h : NewI B w u xs) {a : Addr} (ha : a.block < B) (v : Value) : NewI B (w.setCell a v) u xs := ⟨ownsRow_setCell_below h.1 ha v, h.2⟩
theorem NewI.ints {B : Nat} {w : World} {u : Value} {xs : List Int} (h : NewI B w u xs) : IntsR w u xs := ownsRow_ints h.1 h.2
theorem ids_new (v : Value) (xs : List Int) (k : Int) (B kB : Nat) (w : World) (h : IntsR w v xs) (hb : xs.length ≤ 60) (hx : ∀ x ∈ xs, x ≤ 1000) (k1 : 1 ≤ k) (k2 : k ≤ 1000)
    (hF : w.cell? ⟨B, 0, none⟩ = some (.func (.func 11) #[] #[.pointer (some ⟨kB, 0, none⟩)])) (hK : w.cell? ⟨kB, 0, none⟩ = some (.int .i64 k)) (B0 : Nat) (hB0 : B0 ≤ w.heap.size) :
    Calls Try.prog 12 #[v, .pointer (some ⟨B, 0, none⟩)] w fun e w' => ∃ u, e = .returned u ∧ NewI B0 w' u (xs.map (renI k)) ∧ Nb w w' :=
  (ids_own v xs k B kB w h hb hx k1 k2 hF hK).mono (by
    rintro e w' ⟨u, rfl, ho, hn, k⟩
    refine ⟨u, rfl, ⟨⟨ho.1, ?_⟩, hn⟩, k⟩
    rcases ho.2 with h0 | ⟨g, cap, cur, hv, hg, r⟩
    · exact .inl h0
    · exact .inr ⟨g, cap, cur, hv, Nat.le_trans hB0 hg, r⟩)
end Go.Proofs.Yticifolljhplmaa
