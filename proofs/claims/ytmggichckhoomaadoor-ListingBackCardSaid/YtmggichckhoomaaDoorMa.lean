/-
  Proved here: lines of instructions, the reference's. Conditions: none.
-/
import Derived.Test.YtmggichckhoomaaDoorLm
import Derived.Test.YtmggichckhoomaaDoorLz
import Derived.Deep.QuietTactic
import Derived.BigQuiet
namespace Go.Proofs.YtmggichckhoomaaDoor
open Go.ChangeShapes Go.WideShapes Go.ChangeAt Go.RowKit
set_option linter.unusedVariables false
set_option linter.unusedSimpArgs false
/-- The cells of instructions, one behind the other. -/
def Ins (w : World) (b off : Nat) (is : List I7) : Prop := ∀ k, k < is.length → ∃ i, is[k]? = some i ∧
  w.cell? ⟨b, off + k * 7, none⟩ = some (.int .i64 i.1) ∧ w.cell? ⟨b, off + k * 7 + 1, none⟩ = some (.int .i64 i.2.1) ∧ w.cell? ⟨b, off + k * 7 + 2, none⟩ = some (.int .i64 i.2.2.1) ∧ w.cell? ⟨b, off + k * 7 + 3, none⟩ = some (.int .i64 i.2.2.2.1) ∧ w.cell? ⟨b, off + k * 7 + 4, none⟩ = some (.int .i64 i.2.2.2.2.1) ∧ w.cell? ⟨b, off + k * 7 + 5, none⟩ = some (.bool i.2.2.2.2.2.1) ∧ w.cell? ⟨b, off + k * 7 + 6, none⟩ = some (.bool i.2.2.2.2.2.2)
theorem Ins.nb {a c : World} {b off : Nat} {is : List I7} (h : Ins a b off is) (hn : Nb a c) : Ins c b off is := by
  intro k hk
  obtain ⟨i, hi, c0, c1, c2, c3, c4, c5, c6⟩ := h k hk
  exact ⟨i, hi, hn.cell c0, hn.cell c1, hn.cell c2, hn.cell c3, hn.cell c4, hn.cell c5, hn.cell c6⟩
def linesL (is : List I7) : Bs := is.flatMap fun i => textV7 i ++ [10]
theorem lines_next (is : List I7) (k : Nat) (i : I7) (h : is[k]? = some i) : linesL (is.take (k + 1)) = linesL (is.take k) ++ (textV7 i ++ [10]) := by
  unfold linesL
  rw [List.take_add_one, h]
  simp
theorem textV7_len (i : I7) : (textV7 i).length ≤ 40 := by
  cases hg : GoodI i with
  | true =>
    have : textV7 i = textI i := if_pos hg
    rw [this]; exact (text_len hg).1
  | false =>
    have : textV7 i = [] := if_neg (by intro c; have c' : GoodI i = true := c; rw [hg] at c'; cases c')
    rw [this]; exact Nat.zero_le _
theorem lines_len (is : List I7) : (linesL is).length ≤ 41 * is.length := by
  induction is with
  | nil => exact Nat.le_refl _
  | cons i r ih =>
    have h1 : linesL (i :: r) = (textV7 i ++ [10]) ++ linesL r := by unfold linesL; rw [List.flatMap_cons]
    have h2 := textV7_len i
    rw [h1, List.length_append, List.length_append]
    simp only [List.length_cons, List.length_nil] at *
    omega
set_option maxRecDepth 100000 in
set_option maxHeartbeats 1000000 in
theorem rlines_any (is : List I7) (hl : is.length ≤ 1000) (hI : ∀ i ∈ is, InR i.2.2.2.2.1) (A : Option Addr) (b off cap : Nat) (hA : 0 < is.length → A = some ⟨b, off, none⟩) (w : World) (hC : Hid (Ins w b off is)) :
    Calls Tryd.prog 9 #[.slice A is.length cap] w fun e w' => e = .returned (.string ⟨(linesL is).toArray⟩) ∧ Nb w w' := by
  go_enter Tryd.func9, Tryd.ntmps9
  go_wp2_with fail
  go_loopw [3, 4] (fun o i wr => ∃ k : Nat, k ≤ is.length ∧ i = .int .i64 k ∧ o = .string ⟨(linesL (is.take k)).toArray⟩ ∧ Nb w wr) (fun _ i _ => is.length - (intOf i).toNat)
  case atStart => exact ⟨0, Nat.zero_le _, rfl, rfl, Nb.refl _⟩
  case round =>
    obtain ⟨k, hk, rfl, rfl, hN⟩ := hrel
    by_cases hlt : k < is.length
    · obtain rfl := hA (by omega)
      obtain ⟨i, hi, c0, c1, c2, c3, c4, c5, c6⟩ := (hC.out.nb hN) k hlt
      have hx := Lib.hid (lines_next is k i hi)
      have him := hI i (List.mem_of_getElem? hi)
      have hT := Lib.hid (rtext_any i.1 i.2.1 i.2.2.1 i.2.2.2.1 i.2.2.2.2.1 i.2.2.2.2.2.1 i.2.2.2.2.2.2 him.1 him.2)
      have hL := lines_len (is.take k)
      have hL2 := textV7_len i
      have hL3 : (is.take k).length ≤ 1000 := by simp; omega
      rw [show TextV i.1 i.2.1 i.2.2.1 i.2.2.2.1 i.2.2.2.2.1 i.2.2.2.2.2.1 i.2.2.2.2.2.2 = textV7 i from rfl] at hT
      generalize textV7 i = T at *
      generalize linesL (is.take k) = L at *
      generalize (is.take k).length = m at *
      clear hk hi him
      go_wp2_with fail
      refine (hT.out _).mono ?_
      rintro e w1 ⟨rfl, hn⟩
      go_wp2_with fail
      exact ⟨⟨k + 1, hlt, rfl, by rw [hx.out, ByteArray.mk_append_mk, ByteArray.mk_append_mk, List.append_assoc], hN.trans hn⟩, by simp [intOf]; omega⟩
    · obtain rfl : k = is.length := by omega
      have hx := Lib.hid (show is.take is.length = is from List.take_length)
      clear hk hlt
      go_wp2_with fail
      go_ret
      exact ⟨ret_s (by rw [hx.out]), hN⟩
theorem Ins.at_ {w : World} {b off : Nat} {is : List I7} (h : Ins w b off is) (k : Nat) (i : I7) (hi : is[k]? = some i) :
  w.cell? ⟨b, off + k * 7, none⟩ = some (.int .i64 i.1) ∧ w.cell? ⟨b, off + k * 7 + 1, none⟩ = some (.int .i64 i.2.1) ∧ w.cell? ⟨b, off + k * 7 + 2, none⟩ = some (.int .i64 i.2.2.1) ∧ w.cell? ⟨b, off + k * 7 + 3, none⟩ = some (.int .i64 i.2.2.2.1) ∧ w.cell? ⟨b, off + k * 7 + 4, none⟩ = some (.int .i64 i.2.2.2.2.1) ∧ w.cell? ⟨b, off + k * 7 + 5, none⟩ = some (.bool i.2.2.2.2.2.1) ∧ w.cell? ⟨b, off + k * 7 + 6, none⟩ = some (.bool i.2.2.2.2.2.2) := by
  have hk : k < is.length := by
    rcases Nat.lt_or_ge k is.length with h1 | h1
    · exact h1
    · rw [List.getElem?_eq_none h1] at hi; cases hi
  obtain ⟨j, hj, hc⟩ := h k hk
  obtain rfl := Option.some.inj (hj.symm.trans hi)
  exact hc
attribute [local go_sem ↓] eq7
set_option maxRecDepth 100000 in
set_option maxHeartbeats 2000000 in
theorem same_any (is : List I7) (hl : is.length ≤ 1000000) (A A' : Option Addr) (b off cap b' off' cap' : Nat) (hA : 0 < is.length → A = some ⟨b, off, none⟩) (hA' : 0 < is.length → A' = some ⟨b', off', none⟩) (w : World) (hC : Hid (Ins w b off is)) (hC' : Hid (Ins w b' off' is)) :
    Calls Tryd.prog 10 #[.slice A is.length cap, .slice A' is.length cap'] w fun e w' => e = .returned (.bool true) ∧ Nb w w' := by
  go_enter Tryd.func10, Tryd.ntmps10
  go_wp2_with fail
  go_loopw [5] (fun i wr => ∃ k : Nat, k ≤ is.length ∧ i = .int .i64 k ∧ Nb w wr) (fun i _ => is.length - (intOf i).toNat)
  case atStart => exact ⟨0, Nat.zero_le _, rfl, Nb.refl _⟩
  case round =>
    obtain ⟨k, hk, rfl, hN⟩ := hrel
    by_cases hlt : k < is.length
    · obtain rfl := hA (by omega)
      obtain rfl := hA' (by omega)
      have hi : is[k]? = some is[k] := List.getElem?_eq_getElem hlt
      obtain ⟨c0, c1, c2, c3, c4, c5, c6⟩ := (hC.out.nb hN).at_ k _ hi
      obtain ⟨d0, d1, d2, d3, d4, d5, d6⟩ := (hC'.out.nb hN).at_ k _ hi
      generalize is[k] = i at *
      have hE : EqI i.1 i.2.1 i.2.2.1 i.2.2.2.1 i.2.2.2.2.1 i.2.2.2.2.2.1 i.2.2.2.2.2.2 i.1 i.2.1 i.2.2.1 i.2.2.2.1 i.2.2.2.2.1 i.2.2.2.2.2.1 i.2.2.2.2.2.2 = true := by unfold EqI; simp
      have hlt2 : (k : Int) < (is.length : Int) := by omega
      clear hk hi
      go_wp2_with fail
      go_quiet (fail)
      go_wp2_with fail
      exact ⟨⟨k + 1, hlt, rfl, hN.trans (drewN_nb _ _)⟩, by simp [intOf]; omega⟩
    · obtain rfl : k = is.length := by omega
      clear hk hlt
      go_wp2_with fail
      go_ret
      exact ⟨rfl, hN⟩
end Go.Proofs.YtmggichckhoomaaDoor
