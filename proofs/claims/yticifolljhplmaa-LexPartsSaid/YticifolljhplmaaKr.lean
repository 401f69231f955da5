/-
  Proved here: bytes that came in, opened: a nil slice has no room. Conditions: none.
-/
import Derived.Test.YticifolljhplmaaKq
namespace Go.Proofs.Yticifolljhplmaa
open Go.ChangeShapes Go.WideShapes Go.ChangeAt Go.RowKit Go.Deep Go.Joins
set_option linter.unusedVariables false
set_option linter.unusedSimpArgs false
section
variable {H : Type} {enc : TypeId × Value → H} {w : World} {base : Nat} {spare : Nat → Bool} {held : Bool}
theorem open_bytesZ {r : Reach} {b0 : Nat} {v : Value} {d : DataW H} {p : List MemPlace} (hv : Value.okWide Try.prog w r b0 36 v) (h : DataW.Trod enc Try.prog w base spare held 36 v d p) :
    ∃ (A : Option Addr) (cap : Nat) (bs : Bs), v = .slice A bs.length cap ∧ bs.length ≤ 9223372036854775807 ∧ bs.length ≤ cap ∧ (A = none → cap = 0) ∧ SrcB w A bs := by
  obtain ⟨a1, len1, cap1, rfl⟩ := okWide_slice Try.underlying36 hv
  obtain ⟨fuel, hf⟩ := h
  rcases open_ints Try.underlying36 Try.underlying5 (by kernel_rfl) hf with ⟨hcs, -⟩ | ⟨a, len, cap, zs, hcs, _, hl, hm, hz, -, hcell, hwz⟩
  · simp [Value.cells] at hcs
    obtain ⟨rfl, rfl, rfl⟩ := hcs
    exact ⟨none, 0, [], rfl, by simp, by simp, fun _ => rfl, fun h => absurd h (by simp)⟩
  · simp [Value.cells] at hcs
    obtain ⟨rfl, rfl, rfl⟩ := hcs
    have hle : len1 ≤ zs.length := by rw [hz]; split <;> omega
    have hbl : ((zs.take len1).map fun n => UInt8.ofNat n.toNat).length = len1 := by simp; omega
    refine ⟨some a, cap1, (zs.take len1).map fun n => UInt8.ofNat n.toNat, by rw [hbl], by rw [hbl]; unfold maxLen at hm; omega, by rw [hbl]; exact hl, fun h => (nomatch h), src_of hle rfl hcell hwz⟩
end
end Go.Proofs.Yticifolljhplmaa
