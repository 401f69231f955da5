/-
  Proved here: what an image has at first, as plain lists of bytes; words of 32 bits in memory; two layouts are compared. Conditions: none.
-/
import Derived.Test.YtojogolmcclpoaaUf
import Derived.Test.YtojogolmcclpoaaUh
import Derived.Test.YtojogolmcclpoaaOb
namespace Go.Proofs.Ytojogolmcclpoaa
open Go.RowKit
set_option linter.unusedVariables false
set_option linter.unusedSimpArgs false
set_option maxRecDepth 100000
set_option maxHeartbeats 4000000
/-- The words, one behind the other. -/
def bW (bs : By) (xs : List Int) : Nat → By
  | 0 => bs
  | i + 1 => lay (bW bs xs i) (4 * i) (leB 4 (xs.getD i 0).toNat)
/-- The numbers of the next blocks. -/
def bB (bs : By) (at_ : Nat) : Nat → By
  | 0 => bs
  | n + 1 => lay (bB bs at_ n) (at_ + 256 * n) (leB 8 (n + 2))
/-- What an image has at first. -/
def bld (stop g at_ B : Nat) (xs : List Int) : By := bB (lay (lay (bW (List.replicate stop 0) xs xs.length) g (leB 8 1)) (g + 16) (leB 8 1)) at_ (B - 1)
theorem bW_len (bs : By) (xs : List Int) : ∀ i, 4 * i ≤ bs.length → (bW bs xs i).length = bs.length
  | 0, _ => rfl
  | i + 1, h => by rw [bW, lay_len _ _ _ (by rw [leB_len, bW_len bs xs i (by omega)]; omega), bW_len bs xs i (by omega)]
theorem bB_len (bs : By) (at_ : Nat) : ∀ i, at_ + 256 * i ≤ bs.length → (bB bs at_ i).length = bs.length
  | 0, _ => rfl
  | i + 1, h => by rw [bB, lay_len _ _ _ (by rw [leB_len, bB_len bs at_ i (by omega)]; omega), bB_len bs at_ i (by omega)]
/-- A slice of words of 32 bits. -/
def U32R (w : World) (v : Value) (xs : List Int) : Prop :=
  ∃ (A : Option Addr) (cap : Nat), v = .slice A xs.length cap ∧ xs.length ≤ cap ∧ ∀ (i : Nat) (x : Int), xs[i]? = some x → ∃ b o, A = some ⟨b, o, none⟩ ∧ w.cell? ⟨b, o + i, none⟩ = some (.int .u32 x) ∧ 0 ≤ x ∧ x < 4294967296
theorem eq_ly (a b : Ly) (w : World) : (binOp .eql 26 a.v b.v).run Try.prog w = .ok (.bool ((a.code == b.code) && ((a.globals == b.globals) && ((a.actors == b.actors) && ((a.asize == b.asize) && ((a.blocks == b.blocks) && ((a.bsize == b.bsize) && ((a.stop == b.stop) && (a.slots == b.slots))))))))) w := by
  obtain ⟨l0, l1, l2, l3, l4, l5, l6, l7⟩ := a
  obtain ⟨m0, m1, m2, m3, m4, m5, m6, m7⟩ := b
  show (binOp .eql 26 (.agg #[.int .u64 l0, .int .u64 l1, .int .u64 l2, .int .u64 l3, .int .u64 l4, .int .u64 l5, .int .u64 l6, .int .i64 l7]) (.agg #[.int .u64 m0, .int .u64 m1, .int .u64 m2, .int .u64 m3, .int .u64 m4, .int .u64 m5, .int .u64 m6, .int .i64 m7])).run Try.prog w = .ok (.bool ((l0 == m0) && ((l1 == m1) && ((l2 == m2) && ((l3 == m3) && ((l4 == m4) && ((l5 == m5) && ((l6 == m6) && (l7 == m7))))))))) w
  go_simp
  by_cases h0 : l0 = m0
  case neg => simp [h0]
  case pos =>
  subst h0
  by_cases h1 : l1 = m1
  case neg => simp [h1]
  case pos =>
  subst h1
  by_cases h2 : l2 = m2
  case neg => simp [h2]
  case pos =>
  subst h2
  by_cases h3 : l3 = m3
  case neg => simp [h3]
  case pos =>
  subst h3
  by_cases h4 : l4 = m4
  case neg => simp [h4]
  case pos =>
  subst h4
  by_cases h5 : l5 = m5
  case neg => simp [h5]
  case pos =>
  subst h5
  by_cases h6 : l6 = m6
  case neg => simp [h6]
  case pos =>
  subst h6
  by_cases h7 : l7 = m7
  case neg => simp [h7]
  case pos =>
  subst h7
  simp
theorem ne_ly (a b : Ly) (h : a ≠ b) (w : World) : (binOp .neq 26 a.v b.v).run Try.prog w = .ok (.bool true) w := by
  obtain ⟨l0, l1, l2, l3, l4, l5, l6, l7⟩ := a
  obtain ⟨m0, m1, m2, m3, m4, m5, m6, m7⟩ := b
  show (binOp .neq 26 (.agg #[.int .u64 l0, .int .u64 l1, .int .u64 l2, .int .u64 l3, .int .u64 l4, .int .u64 l5, .int .u64 l6, .int .i64 l7]) (.agg #[.int .u64 m0, .int .u64 m1, .int .u64 m2, .int .u64 m3, .int .u64 m4, .int .u64 m5, .int .u64 m6, .int .i64 m7])).run Try.prog w = .ok (.bool true) w
  go_simp
  by_cases h0 : l0 = m0
  case neg => simp [h0]
  case pos =>
  subst h0
  by_cases h1 : l1 = m1
  case neg => simp [h1]
  case pos =>
  subst h1
  by_cases h2 : l2 = m2
  case neg => simp [h2]
  case pos =>
  subst h2
  by_cases h3 : l3 = m3
  case neg => simp [h3]
  case pos =>
  subst h3
  by_cases h4 : l4 = m4
  case neg => simp [h4]
  case pos =>
  subst h4
  by_cases h5 : l5 = m5
  case neg => simp [h5]
  case pos =>
  subst h5
  by_cases h6 : l6 = m6
  case neg => simp [h6]
  case pos =>
  subst h6
  by_cases h7 : l7 = m7
  case neg => simp [h7]
  case pos =>
  subst h7
  exact absurd rfl h
end Go.Proofs.Ytojogolmcclpoaa
