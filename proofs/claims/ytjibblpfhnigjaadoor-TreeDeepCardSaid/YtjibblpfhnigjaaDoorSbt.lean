/-
  Proved here: what the conditions on the laid tables give; a program of one expression; an expression wrapped in tuples. Conditions: stated.
-/
import Derived.Test.YtjibblpfhnigjaaDoorSay
import Derived.Test.YtjibblpfhnigjaaDoorSbs
import Derived.Test.YtjibblpfhnigjaaDoorSax
import Derived.Stop.LaidErr
import Derived.LaidMore
import Derived.Stop.Joined
import Derived.Lib.LaidTab
namespace Go.Proofs.YtjibblpfhnigjaaDoor
open Go.ChangeShapes Go.WideShapes Go.ChangeAt Go.RowKit
set_option linter.unusedVariables false
set_option linter.unusedSimpArgs false
def laidG : List (String × DataW Unit) := [("math/bits.deBruijn32tab", Rows.laid_math_bits_deBruijn32tab), ("math/bits.deBruijn64tab", Rows.laid_math_bits_deBruijn64tab), ("internal/strconv.uint64pow10", Rows.laid_internal_strconv_uint64pow10)]
theorem pow_isG {H : Type} : (Rows.laid_internal_strconv_uint64pow10 : DataW H) = Lib.tabData .u64 Lib.pow10Tab := by rfl
theorem tw_of_laid {W : World} (h : laidMetH Tryd.prog laidG W) : Tw W := by
  rw [MakeChecks.laidMetH_plain _ _ _ (by kernel_rfl)] at h
  unfold laidG at h
  rw [pow_isG] at h
  exact Lib.tabIs_of_head (g := 0) (t := 133) (e := 125) (n := 20) (by kernel_rfl) (by kernel_rfl) Tryd.underlying133 Tryd.underlying125 (by kernel_rfl) (by kernel_rfl) (laidMet.tail (laidMet.tail h))
theorem door_metG (os : Os) (args : Array Value) : laidMetH Tryd.prog laidG ((World.doorLaid Tryd.prog 400 os).forCall (fun _ _ => 0) ⟨#[], args, []⟩).memory :=
  laidMetH_of_parts3 (fuel := 8) (laidMet_of_run' 8 (by kernel_rfl) (by kernel_rfl)) (by kernel_rfl) (by kernel_rfl)
/-! A program of one expression. -/
def onePg (b : Nat) (e : Ex) : Pg := ⟨.slice none 0 0, [], 0, [], .slice (some ⟨b, 0, none⟩) 1 1, [e]⟩
theorem one_row {W : World} {b : Nat} {e : Ex} (h : W.heap[b]? = some (.cells e.cells.toArray 30 (0, 0))) (he : e.Has W) : ExsHas W (.slice (some ⟨b, 0, none⟩) 1 1) [e] :=
  ⟨row_blk [e.cells] (by simpa using h) (by simp [Ex.cells_len]) (by simp), fun x hx => by
    rcases List.mem_cons.1 hx with rfl | hx
    · exact he
    · cases hx⟩
theorem onePg_has {W : World} {b : Nat} {e : Ex} (h : W.heap[b]? = some (.cells e.cells.toArray 30 (0, 0))) (he : e.Has W) : (onePg b e).Has W :=
  ⟨row_nil W 12, (fun d hd => by cases hd), (fun d hd => by cases hd), one_row h he, (fun d hd => by cases hd), (by simp [onePg])⟩
theorem onePg_dp (b : Nat) (e : Ex) : dpP (onePg b e) = dpE 65 e := by
  show max (max (dpE 65 e) 0) 0 = dpE 65 e
  omega
/-! Wrapped in tuples of one. -/
def wrapE (base : Nat) (e : Ex) : Nat → Ex
  | 0 => e
  | j + 1 => .mk 5 0 0 [] (.slice (some ⟨base + j, 0, none⟩) 1 1) [wrapE base e j]
theorem wrapE_has {W : World} {base : Nat} {e : Ex} (he : e.Has W) : ∀ i, (∀ j, j < i → W.heap[base + j]? = some (.cells (wrapE base e j).cells.toArray 30 (0, 0))) → (wrapE base e i).Has W
  | 0, _ => he
  | i + 1, h => by
    have h1 := one_row (h i (Nat.lt_succ_self i)) (wrapE_has he i fun j hj => h j (Nat.lt_succ_of_lt hj))
    exact .mk (e := wrapE base e (i + 1)) h1.row h1.kids ⟨by simp [wrapE, Ex.n], by simp [wrapE, Ex.n]⟩ (by simp [wrapE, Ex.name])
theorem dpE_min : ∀ (k m : Nat) (e : Ex), k ≤ m → dpE k e = min k (dpE m e)
  | 0, m, e, h => by simp [dpE]
  | k + 1, 0, e, h => absurd h (by omega)
  | k + 1, m + 1, e, h => by
    have key : ∀ l : List Ex, maxL (l.map (dpE k)) = min k (maxL (l.map (dpE m))) := by
      intro l
      induction l with
      | nil => simp [maxL]
      | cons x l ih =>
        show max (dpE k x) (maxL (l.map (dpE k))) = min k (max (dpE m x) (maxL (l.map (dpE m))))
        rw [ih, dpE_min k m x (by omega)]
        omega
    show 1 + maxL (e.args.map (dpE k)) = min (k + 1) (1 + maxL (e.args.map (dpE m)))
    rw [key]
    omega
theorem dpE_wrap (base : Nat) (e : Ex) : ∀ i, dpE 65 (wrapE base e i) = min (dpE 65 e + i) 65
  | 0 => by
    have := dpE_le 65 e
    show dpE 65 e = _
    omega
  | i + 1 => by
    have h1 : dpE 65 (wrapE base e (i + 1)) = 1 + max (dpE 64 (wrapE base e i)) 0 := rfl
    rw [h1, dpE_min 64 65 _ (by omega), dpE_wrap base e i]
    omega
end Go.Proofs.YtjibblpfhnigjaaDoor
