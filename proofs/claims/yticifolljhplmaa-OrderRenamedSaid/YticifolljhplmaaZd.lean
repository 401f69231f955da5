/-
  Proved here: operations that came in, as a source of an append; rows of one's own. Conditions: none.
-/
import Derived.Test.YticifolljhplmaaZa
import Derived.Test.YticifolljhplmaaYq
import Derived.Test.YticifolljhplmaaYw
namespace Go.Proofs.Yticifolljhplmaa
open Go.RowKit
set_option linter.unusedVariables false
set_option linter.unusedSimpArgs false
set_option maxRecDepth 100000
theorem info_op : (Try.prog.info? 32).map (fun i => (i.zero, i.size, i.bytes)) = some (some (.agg #[.int .i64 0, .bool false, .bool false, .bool false, .int .u64 0, .int .i64 0, .bool false, .bool false, .int .i64 0, .int .i64 0, .int .u64 0, .int .u64 0, .slice none 0 0, .int .i64 0, .slice none 0 0, .slice none 0 0, .slice none 0 0]), 17, 176) := by kernel_rfl
theorem own0 {w : World} {g base : Nat} {t : TypeId} (h : w.heap[g]? = some (.cells #[] t (0, 0))) (hb : base ≤ g) : w.ownsRow base t 17 (.slice (some ⟨g, 0, none⟩) 0 0) 0 [] :=
  ⟨rfl, .inr ⟨g, 0, #[], rfl, hb, h, Nat.le_refl _, by decide, rfl, rfl⟩⟩
theorem own_ge {w : World} {base s n : Nat} {t : TypeId} {v : Value} {xs : List Value} (h : w.ownsRow base t s v n xs) : ∀ r, v.ownBlock = some r → base ≤ r := by
  intro r hr
  rcases h.2 with ⟨rfl, -⟩ | ⟨g, cap, cur, rfl, hb, -⟩
  · cases hr
  · simp only [Value.ownBlock, Option.some.injEq] at hr
    omega
theorem src_ops {w : World} {p : Option Addr} {n c : Nat} {l : List OpD} (h : OpsR w (.slice p n c) l) (hn : l.length = n) (hz : p = none → c = 0) : SrcR w (.slice p n c) n 17 (l.flatMap OpD.cells) := by
  rcases h with ⟨⟨p', c', e⟩, rfl⟩ | ⟨b, o, c', e, hb, hc, hx⟩
  · simp at hn
    subst hn
    cases p with
    | none => rw [hz rfl]; exact .inl ⟨rfl, rfl, rfl⟩
    | some a => exact .inr ⟨a, c, rfl, rfl, fun j u hj => by simp at hj, fun u hu => by simp at hu⟩
  · injection e with e1 e2 e3
    subst e1 e3
    exact src_of hn hx
/-- What an append's row reads, once more as operations. -/
theorem ops_app {w : World} {base n : Nat} {t : TypeId} {v : Value} {xs : List Value} {l : List OpD} (hn : l.length = n) (hx : xs = l.flatMap OpD.cells) (h : w.ownsRow base t 17 v n xs) (k : ∀ d ∈ l, d.Has w) : OpsR w v l := by
  subst hx
  exact ops_of_row hn h k
theorem rules_c {w : World} {v : Value} {L : List OpD} (hO : OpsR w v L) (hL : L.length ≤ 1000000) (hs : ∀ m ∈ L, ShortOp m) : ∀ W, Nb w W → ∀ x y : Int, -9223372036854775808 ≤ x → y < 9223372036854775808 →
    Calls Try.prog 15 #[v, .int .i64 x, .int .i64 y] W fun e w' => ∃ u, e = .returned u ∧ IntsR w' u (rulesS L x y) ∧ Nb W w' :=
  fun W k x y hx hy => rules_of v L x y W (hO.nb k) hL hs hx hy
theorem light_short {l : List OpD} (h : LightS l = true) : (∀ m ∈ l, ShortOp m) ∧ l.length ≤ 60 := by
  unfold LightS at h
  simp only [Bool.and_eq_true, decide_eq_true_eq, List.all_eq_true] at h
  refine ⟨fun m hm => ?_, h.1⟩
  have := h.2 m hm
  unfold lightB at this
  simp only [Bool.and_eq_true, decide_eq_true_eq] at this
  exact ⟨by omega, by omega, by omega⟩
theorem ints_c {W : World} {u u' : Value} {xs ys : List Int} (h : IntsR W u xs) (h' : IntsR W u' ys) (hx : xs.length ≤ 13) (he : xs = ys) :
    Calls Try.prog 14 #[u, u'] W fun e w' => e = .returned (.bool true) ∧ Nb W w' := by
  subst he
  refine (ints_any u u' xs xs W h h' (by omega) (by omega)).mono ?_
  rintro e w' ⟨rfl, k⟩
  exact ⟨by simp, k⟩
end Go.Proofs.Yticifolljhplmaa
