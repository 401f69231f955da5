/-
  Proved here: what the laid variables give the laws on texts. Condition: they hold what their texts lay.
-/
import Derived.Test.YtmggichckhoomaaDoorLq
namespace Go.Proofs.YtmggichckhoomaaDoor
open Go.ChangeShapes Go.WideShapes Go.ChangeAt Go.RowKit
set_option linter.unusedVariables false
theorem row_of_var {P : Program} {W : World} {n : String} {g : Nat} {cs : Array Value} (hg : P.globalNamed n = some g) (h : W.var? P n = some cs) : ∃ t fr, W.heap[g]? = some (.cells cs t fr) := by
  unfold World.var? at h
  rw [hg] at h
  simp only [Option.bind_some] at h
  split at h
  · rename_i cs' t fr ho
    injection h with h
    subst h
    exact ⟨t, fr, ho⟩
  · cases h
theorem lx_of_laid {W : World} (hs : W.ShapedOpen Tryd.prog) (h : laidMetH Tryd.prog laidT W) : Lx W := by
  refine ⟨lw_of_laid hs h, ?_⟩
  rw [MakeChecks.laidMetH_plain _ _ _ (by kernel_rfl)] at h
  unfold laidT at h
  rw [names_is] at h
  have h7 := laidMet.tail (laidMet.tail (laidMet.tail (laidMet.tail (laidMet.tail (laidMet.tail h)))))
  have hn := strs_of_head (g := 0) (t := 73) (e := 9) (n := 88) (by kernel_rfl) (by kernel_rfl) Tryd.underlying73 Tryd.underlying9 (by kernel_rfl) (by kernel_rfl) h7
  exact row_of_var (by kernel_rfl) hn
end Go.Proofs.YtmggichckhoomaaDoor
