/-
  Proved here: the example of lex holds. Conditions: none.
-/
import Derived.Test.YticifolljhplmaaKo
import Derived.Lib.SlBytesConst
namespace Go.Proofs.Yticifolljhplmaa
open Go.ChangeShapes Go.WideShapes Go.ChangeAt Go.RowKit
set_option linter.unusedVariables false
set_option linter.unusedSimpArgs false
set_option maxRecDepth 100000
set_option maxHeartbeats 2000000
def lvB : Bs := [115, 101, 110, 100, 32, 112, 44, 32, 123, 39, 97, 44, 32, 49, 50, 125, 59]
def lvT : List Tk := [(1, 0, [115, 101, 110, 100], 0), (1, 5, [112], 0), (4, 6, [44], 0), (4, 8, [123], 0), (3, 9, [97], 0), (4, 11, [44], 0), (2, 13, [49, 50], 12), (4, 15, [125], 0), (4, 16, [59], 0), (5, 17, [], 0)]
theorem lv_TA : TA lvB = (lvT, 0, true) := by
  unfold TA
  rw [if_neg (by decide), show TT lvB 0 = _ from tt_lives]
  rfl
def lvO : Obj := .cells #[.int .u8 115, .int .u8 101, .int .u8 110, .int .u8 100, .int .u8 32, .int .u8 112, .int .u8 44, .int .u8 32, .int .u8 123, .int .u8 39, .int .u8 97, .int .u8 44, .int .u8 32, .int .u8 49, .int .u8 50, .int .u8 125, .int .u8 59] 5 (17, 18)
theorem lv_src (w : World) : SrcB (w.alloc lvO) (some ⟨w.heap.size, 0, none⟩) lvB := by
  intro _
  refine ⟨_, rfl, fun j c hc => ?_⟩
  have h : (w.alloc lvO).heap[w.heap.size]? = some (.cells (lvB.map fun c => Value.int .u8 (bI c)).toArray 5 (17, 18)) := new_blk w lvO rfl
  rw [show (⟨w.heap.size, 0, none⟩ : Addr).add j = ⟨w.heap.size, j, none⟩ by simp [Addr.add] <;> omega, cell_of_row _ _ j _ _ _ h]
  simp [hc]
theorem lv_tokens (w : World) : Calls Try.prog 18 #[.slice (some ⟨w.heap.size, 0, none⟩) 17 17] (w.alloc lvO) fun e w' => ∃ g cap, e = .returned (.tuple #[.slice (some ⟨g, 0, none⟩) 10 cap, .int .i64 0, .int .i64 0]) ∧ Nb w w' ∧
    w'.cell? ⟨g, 16, none⟩ = some (.int .i64 3) ∧ w'.cell? ⟨g, 17, none⟩ = some (.int .i64 9) ∧ w'.cell? ⟨g, 18, none⟩ = some (.string ⟨#[97]⟩) ∧ w'.cell? ⟨g, 19, none⟩ = some (.int .i64 0) ∧ w'.cell? ⟨g, 27, none⟩ = some (.int .i64 12) ∧
    w'.cell? ⟨g, 36, none⟩ = some (.int .i64 5) ∧ w'.cell? ⟨g, 37, none⟩ = some (.int .i64 17) ∧ w'.cell? ⟨g, 38, none⟩ = some (.string ⟨#[]⟩) ∧ w'.cell? ⟨g, 39, none⟩ = some (.int .i64 0) := by
  refine (tokens_any (some ⟨w.heap.size, 0, none⟩) 17 lvB (by decide) (by decide) _ (lv_src w)).mono ?_
  rintro e w' ⟨v, he, hn, ho⟩
  rw [lv_TA] at he ho
  rcases ho.2 with ⟨-, h0⟩ | ⟨g, cap, cur, rfl, -⟩
  · cases h0
  · have hc := fun j hj => World.ownsRow.cellAt ho j hj
    exact ⟨g, cap, he, ((Nb.refl w).alloc _).trans hn, hc 16 (by decide), hc 17 (by decide), hc 18 (by decide), hc 19 (by decide), hc 27 (by decide), hc 36 (by decide), hc 37 (by decide), hc 38 (by decide), hc 39 (by decide)⟩
theorem lives_any (w : World) : Calls Try.prog 17 #[] w fun e w' => e = .returned (.bool true) ∧ Nb w w' := by
  have kc := fun (w : World) (C : Array Value) (n c : Nat) => Lib.run_convert_bytes_const (P := Try.prog) w 36 5 C n c Try.underlying36 Try.underlying5
  go_enter Try.func17, Try.ntmps17
  go_upto_region 2 with (go_at_call 18; refine (lv_tokens w).mono ?_; rintro e w1 ⟨g, cap, rfl, hn, c16, c17, c18, c19, c27, c36, c37, c38, c39⟩)
  have e1 := fun w => eql_tok (3, 9, [97], 0) (3, 9, [97], 0) w
  have e2 := fun w => eql_tok (5, 17, [], 0) (5, 17, [], 0) w
  rw [decide_eq_true rfl] at e1 e2
  go_wp2_with fail
  trace_state
  go_ret
  exact ⟨rfl, hn⟩
end Go.Proofs.Yticifolljhplmaa
