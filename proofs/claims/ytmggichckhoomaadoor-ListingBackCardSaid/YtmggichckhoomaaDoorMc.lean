/-
  Proved here: lines of instructions, the code's. Conditions: the variables hold what their texts lay.
-/
import Derived.Test.YtmggichckhoomaaDoorMa
import Derived.Test.YtmggichckhoomaaDoorSb
import Derived.Lib.OthersKept
namespace Go.Proofs.YtmggichckhoomaaDoor
open Go.ChangeShapes Go.WideShapes Go.ChangeAt Go.RowKit
set_option linter.unusedVariables false
set_option linter.unusedSimpArgs false
theorem bld_nb {T e : TypeId} {B b : Nat} {bs : List Value} {a c : World} (h : Lib.IsBuilderF T e B b bs a) (hn : Nb a c) : Lib.IsBuilderF T e B b bs c := by
  have key : ∀ p, Lib.BuilderAtF T e B b p bs a → Lib.BuilderAtF T e B b p bs c := by
    rintro p ⟨hB, v, hb, ho, hne⟩
    exact ⟨hB, v, hn.block hb, ho.kept (row := none) ⟨hn.os, hn.tape, hn.output, hn.size, fun k hk _ => Below.block hn k hk⟩ (by cases v.ownBlock <;> simp), hne⟩
  exact h.elim (fun x => .inl (key _ x)) (fun x => .inr (key _ x))
theorem bld_new (w : World) {W : World} (hW : w.alloc (Obj.cells #[.pointer none, .slice none 0 0] 46) = W) : Lib.IsBuilderF 46 5 w.heap.size w.heap.size (Lib.byteCells []) W :=
  .inl ⟨Nat.le_refl _, .slice none 0 0, blk_made w _ hW rfl, World.ownsRowF_of (World.ownsRow_nil _ _ _ _), by simp [Value.ownBlock]⟩
set_option maxRecDepth 100000 in
set_option maxHeartbeats 2000000 in
theorem lines_any (is : List I7) (hl : is.length ≤ 1000) (hI : ∀ i ∈ is, InR i.2.2.2.2.1) (A : Option Addr) (b off cap : Nat) (hA : 0 < is.length → A = some ⟨b, off, none⟩) (w : World) (hL : Lw w) (hC : Hid (Ins w b off is)) :
    Calls Tryd.prog 8 #[.slice A is.length cap] w fun e w' => e = .returned (.string ⟨(linesL is).toArray⟩) ∧ Nb w w' := by
  go_enter Tryd.func8, Tryd.ntmps8
  go_wp2_with fail
  obtain ⟨W1, h1⟩ : ∃ W1, w.alloc (Obj.cells #[.pointer none, .slice none 0 0] 46) = W1 := ⟨_, rfl⟩
  have k1 := bld_new w h1
  have n1 : Nb w W1 := by rw [← h1]; exact (Nb.refl _).alloc _
  have z1 : w.heap.size < W1.heap.size := by rw [← h1, World.size_alloc]; exact Nat.lt_succ_self _
  rw [h1]
  clear h1
  go_loopw [8] (fun i wr => ∃ k : Nat, k ≤ is.length ∧ i = .int .i64 k ∧ Lib.IsBuilderF 46 5 w.heap.size w.heap.size (Lib.byteCells (linesL (is.take k))) wr ∧ Nb w wr) (fun i _ => is.length - (intOf i).toNat)
  case atStart => exact ⟨0, Nat.zero_le _, rfl, k1, n1⟩
  case round =>
    obtain ⟨k, hk, rfl, hB, hN⟩ := hrel
    clear k1 n1 z1
    by_cases hlt : k < is.length
    · obtain rfl := hA (by omega)
      obtain ⟨i, hi, c0, c1, c2, c3, c4, c5, c6⟩ := (hC.out.nb hN) k hlt
      have hx := Lib.hid (lines_next is k i hi)
      have him := hI i (List.mem_of_getElem? hi)
      have hT := Lib.hid (text_any i.1 i.2.1 i.2.2.1 i.2.2.2.1 i.2.2.2.2.1 i.2.2.2.2.2.1 i.2.2.2.2.2.2 him.1 him.2)
      have hL1 := lines_len (is.take k)
      have hL2 := textV7_len i
      have hL3 : (is.take k).length ≤ 1000 := by simp; omega
      rw [show TextV i.1 i.2.1 i.2.2.1 i.2.2.2.1 i.2.2.2.2.1 i.2.2.2.2.2.1 i.2.2.2.2.2.2 = textV7 i from rfl] at hT
      have hlt' : (k : Int) < (is.length : Int) := by omega
      generalize textV7 i = T at *
      generalize linesL (is.take k) = L at *
      generalize (is.take k).length = m at *
      clear hk hi him
      go_upto_region 5 with (fail)
      obtain ⟨W4, h4⟩ : ∃ W4, wr.alloc (Obj.cells #[.int .i64 i.1, .int .i64 i.2.1, .int .i64 i.2.2.1, .int .i64 i.2.2.2.1, .int .i64 i.2.2.2.2.1, .bool i.2.2.2.2.2.1, .bool i.2.2.2.2.2.2] 33) = W4 := ⟨_, rfl⟩
      have k4 := blk_made wr _ h4 rfl
      have h5 : Nb wr W4 := by rw [← h4]; exact (Nb.refl _).alloc _
      rw [h4]
      clear h4 c0 c1 c2 c3 c4 c5 c6
      have hN1 := hN.trans h5
      have hB1 := bld_nb hB h5
      obtain ⟨z, c0, c1, c2, c3, c4, c5, c6⟩ := cells7 k4
      clear hB hN h5 k4
      go_wp2_with fail
      refine (hT.out _ (hL.of_nb hN1)).mono ?_
      rintro e w5 ⟨rfl, hn⟩
      have hN2 := hN1.trans hn
      have hB2 := bld_nb hB1 hn
      clear hB1 hN1 hn z c0 c1 c2 c3 c4 c5 c6
      go_wp2_with fail
      refine (Tryd.Builder_WriteString_k w.heap.size w.heap.size (Lib.byteCells L) ⟨T.toArray⟩ w5 hB2 (by rw [Lib.byteCells_length]; show L.length + T.toArray.size ≤ _; simp; omega) hN2.size).mono ?_
      rintro e w6 ⟨rfl, hB3, hb3, -⟩
      have hN3 : Nb w w6 := Below.trans hN2 hb3
      clear hB2 hN2 hb3
      go_wp2_with fail
      refine (Tryd.Builder_WriteString_k w.heap.size w.heap.size (Lib.byteCells L ++ Lib.strCells ⟨T.toArray⟩) ⟨#[10]⟩ w6 (.inr hB3) (by rw [List.length_append, Lib.byteCells_length, Lib.strCells_length]; show L.length + T.toArray.size + 1 ≤ _; simp; omega) hN3.size).mono ?_
      rintro e w7 ⟨rfl, hB4, hb4, -⟩
      have hN4 : Nb w w7 := Below.trans hN3 hb4
      have hB5 : Lib.IsBuilderF 46 5 w.heap.size w.heap.size (Lib.byteCells (linesL (is.take (k + 1)))) w7 := by
        rw [hx.out, Lib.byteCells_append, Lib.byteCells_append, ← List.append_assoc]
        exact .inr hB4
      clear hB3 hB4 hN3 hb4
      go_wp2_with fail
      exact ⟨⟨k + 1, hlt, rfl, hB5, hN4⟩, by simp [intOf]; omega⟩
    · obtain rfl : k = is.length := by omega
      rw [List.take_length] at hB
      clear hk hlt
      go_wp2_with fail
      refine (Tryd.Builder_String_any_k w.heap.size w.heap.size (linesL is) wr hB hN.size).mono ?_
      rintro e w8 ⟨rfl, -, hb8, -⟩
      go_wp2_with fail
      go_ret
      exact ⟨rfl, Below.trans hN hb8⟩
end Go.Proofs.YtmggichckhoomaaDoor
