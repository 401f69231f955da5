/-
  Proved here: the law's own example. Conditions: the table of powers is laid. ¦ what the conditions on the laid tables give; a program of one expression; an expression wrapped in tuples. Conditions: stated.
-/
import Derived.Test.YtojogolmcclpoaaDoorSbj
import Derived.Test.YtojogolmcclpoaaDoorSat
import Derived.Test.YtojogolmcclpoaaDoorSas
import Derived.Stop.LaidErr
import Derived.LaidMore
import Derived.Stop.Joined
import Derived.Lib.LaidTab
section
namespace Go.Proofs.YtojogolmcclpoaaDoor
open Go.RowKit
set_option linter.unusedVariables false
set_option linter.unusedSimpArgs false
set_option maxRecDepth 100000
set_option maxHeartbeats 4000000
attribute [-go_sem] run_eql_struct
theorem flat_at {s : Nat} : ∀ (rows : List (List Value)), (∀ r ∈ rows, r.length = s) → ∀ (i : Nat) (r : List Value), rows[i]? = some r → ∀ (j : Nat) (u : Value), r[j]? = some u → rows.flatten[i * s + j]? = some u
  | [], _, i, r, h, _, _, _ => by simp at h
  | x :: l, hs, 0, r, h, j, u, hu => by
    obtain rfl := Option.some.inj h
    rw [Nat.zero_mul, Nat.zero_add, List.flatten_cons, List.getElem?_append_left (List.getElem?_eq_some_iff.1 hu).1]
    exact hu
  | x :: l, hs, i + 1, r, h, j, u, hu => by
    have hx := hs x (List.mem_cons_self ..)
    rw [List.flatten_cons, List.getElem?_append_right (by rw [hx, Nat.succ_mul]; omega), hx, show (i + 1) * s + j - s = i * s + j by rw [Nat.succ_mul]; omega]
    exact flat_at l (fun y hy => hs y (List.mem_cons_of_mem _ hy)) i r h j u hu
theorem row_blk {W : World} {b s : Nat} {t : TypeId} {fr : Nat × Nat} (rows : List (List Value)) (hb : W.heap[b]? = some (.cells rows.flatten.toArray t fr)) (hs : ∀ r ∈ rows, r.length = s) (hl : rows.length ≤ 9223372036854775807) :
    RowS W s (.slice (some ⟨b, 0, none⟩) rows.length rows.length) rows := by
  refine ⟨_, _, rfl, Nat.le_refl _, hl, fun e => (nomatch e), fun i r hi => ⟨b, 0, rfl, fun j u hu => ?_⟩⟩
  rw [Nat.zero_add]
  exact (cell_of_row _ _ _ _ _ _ hb).trans (by rw [List.getElem?_toArray]; exact flat_at rows hs i r hi j u hu)
theorem row_nil (W : World) (s : Nat) : RowS W s (.slice none 0 0) [] := ⟨none, 0, rfl, Nat.le_refl _, Nat.zero_le _, fun _ => rfl, fun i r h => by simp at h⟩
theorem exs_nil (W : World) : ExsHas W (.slice none 0 0) [] := ⟨row_nil W 5, fun x h => by simp at h⟩
theorem itoa_dig {n : Int} (h0 : 0 ≤ n) (h1 : n < 10) : Lib.itoa n = [UInt8.ofNat (48 + n.toNat)] := by
  unfold Lib.itoa
  rw [if_neg (by omega), Lib.decDigits, dif_pos (by omega)]
/-! The example. -/
def lE (k n : Int) (s : Bs) : Ex := .mk k 0 n s (.slice none 0 0) []
def lSum (b : Nat) : Ex := .mk 6 0 0 [43] (.slice (some ⟨b, 0, none⟩) 2 2) [lE 3 0 [120], lE 1 1 []]
def lOut (b c : Nat) : St := ⟨4, 0, [], [], .slice (some ⟨c, 0, none⟩) 1 1, [lSum b]⟩
def lBody (b c d : Nat) : Bd := .mk (.slice (some ⟨d, 0, none⟩) 1 1) [lOut b c] 2 0 [] (.slice none 0 0) [] (.slice none 0 0) [] (.slice none 0 0) [] false 0
def lDef (b a c d : Nat) : Df := ⟨0, [65], .slice (some ⟨a, 0, none⟩) 1 1, [[120]], lBody b c d⟩
def lPg (b a c d f g : Nat) : Pg := ⟨.slice (some ⟨f, 0, none⟩) 1 1, [lDef b a c d], 0, [65], .slice (some ⟨g, 0, none⟩) 1 1, [lE 1 2 []]⟩
theorem lE_has (W : World) (k n : Int) (s : Bs) (hn : -9223372036854775808 ≤ n ∧ n < 9223372036854775808) (hs : s.length ≤ 9223372036854775807) : (lE k n s).Has W := .mk (row_nil W 5) (fun x h => by cases h) hn hs
theorem lPg_has {W : World} {b a c d f g : Nat}
    (h0 : W.heap[b]? = some (.cells ((lE 3 0 [120]).cells ++ (lE 1 1 []).cells).toArray 36 (0, 0)))
    (h1 : W.heap[c]? = some (.cells (lSum b).cells.toArray 36 (0, 0)))
    (h2 : W.heap[a]? = some (.cells #[sV [120]] 9 (0, 0)))
    (h3 : W.heap[d]? = some (.cells (lOut b c).cells.toArray 39 (0, 0)))
    (h4 : W.heap[f]? = some (.cells (lDef b a c d).cells.toArray 46 (0, 0)))
    (h5 : W.heap[g]? = some (.cells (lE 1 2 []).cells.toArray 36 (0, 0))) : (lPg b a c d f g).Has W := by
  have hsum : (lSum b).Has W := by
    refine .mk (row_blk [(lE 3 0 [120]).cells, (lE 1 1 []).cells] (by simpa using h0) (by simp [Ex.cells_len]) (by simp)) ?_ ⟨by simp [lSum, Ex.n], by simp [lSum, Ex.n]⟩ (by simp [lSum, Ex.name])
    intro x hx
    rcases List.mem_cons.1 hx with rfl | hx
    · exact lE_has W _ _ _ ⟨by decide, by decide⟩ (by decide)
    · rcases List.mem_cons.1 hx with rfl | hx
      · exact lE_has W _ _ _ ⟨by decide, by decide⟩ (by decide)
      · cases hx
  have hout : (lOut b c).Has W := by
    refine ⟨⟨row_blk [(lSum b).cells] (by simpa using h1) (by simp [Ex.cells_len]) (by simp), ?_⟩, by simp [lOut], by simp [lOut]⟩
    intro x hx
    rcases List.mem_cons.1 hx with rfl | hx
    · exact hsum
    · cases hx
  have hbody : (lBody b c d).Has W := by
    refine .mk (row_blk [(lOut b c).cells] (by simpa using h3) (by simp [St.cells_len]) (by simp)) ?_ (exs_nil W) (row_nil W 9) (fun x h => by cases h) (row_nil W 15) (fun x h => by cases h) (fun x h => by cases h) (fun x h => by cases h) (by simp [lBody, Bd.actor]) ⟨by simp [lBody, Bd.after], by simp [lBody, Bd.after]⟩
    intro x hx
    rcases List.mem_cons.1 hx with rfl | hx
    · exact hout
    · cases hx
  refine ⟨row_blk [(lDef b a c d).cells] (by simpa using h4) (by simp [Df.cells_len]) (by simp), ?_, ?_, ⟨row_blk [(lE 1 2 []).cells] (by simpa using h5) (by simp [Ex.cells_len]) (by simp), ?_⟩, ?_, by simp [lPg]⟩
  · intro x hx
    rcases List.mem_cons.1 hx with rfl | hx
    · exact row_blk [[sV [120]]] (by simpa using h2) (by simp) (by simp)
    · cases hx
  · intro x hx
    rcases List.mem_cons.1 hx with rfl | hx
    · exact hbody
    · cases hx
  · intro x hx
    rcases List.mem_cons.1 hx with rfl | hx
    · exact lE_has W _ _ _ ⟨by decide, by decide⟩ (by decide)
    · cases hx
  · intro x hx
    rcases List.mem_cons.1 hx with rfl | hx
    · refine ⟨by simp [lDef], fun s hs => ?_⟩
      rcases List.mem_cons.1 hs with rfl | hs
      · simp
      · cases hs
    · cases hx
theorem lPg_text (b a c d f g : Nat) : txP (lPg b a c d f g) = [97, 99, 116, 111, 114, 32, 65, 40, 120, 41, 32, 123, 32, 111, 117, 116, 32, 40, 120, 32, 43, 32, 49, 41, 59, 32, 115, 116, 111, 112, 32, 125, 10, 109, 97, 105, 110, 32, 65, 40, 50, 41, 10] := by
  have i1 : Lib.itoa 1 = [49] := itoa_dig (by decide) (by decide)
  have i2 : Lib.itoa 2 = [50] := itoa_dig (by decide) (by decide)
  have e1 : txE (lE 1 1 []) = [49] := i1
  have e2 : txE (lE 1 2 []) = [50] := i2
  have e3 : txE (lE 3 0 [120]) = [120] := rfl
  have e4 : txE (lSum b) = [40] ++ (txE (lE 3 0 [120]) ++ (([32] ++ ([43] ++ [32])) ++ (txE (lE 1 1 []) ++ [41]))) := rfl
  have e5 : txP (lPg b a c d f g) = (([97, 99, 116, 111, 114, 32] ++ ([65] ++ [40])) ++ (jnT [[120]] ++ ([41, 32] ++ (([123, 32] ++ ((((([111, 117, 116, 32] ++ jnT [txE (lSum b)]) ++ [59]) ++ [32]) ++ []) ++ ([115, 116, 111, 112] ++ [32, 125]))) ++ [10]))) ++ []) ++ ([109, 97, 105, 110, 32] ++ ((([65] ++ [40]) ++ (jnT [txE (lE 1 2 [])] ++ [41])) ++ [10])) := rfl
  rw [e5, e4, e1, e2, e3]
  rfl
theorem lives_any (w : World) (hT : Tw w) :
    Calls Tryd.prog 6 #[] w fun r w' => r = .returned (.bool true) ∧ Nb w w' := by
  go_enter Tryd.func6, Tryd.ntmps6
  go_upto_region 3 with (fail)
  obtain ⟨W, hW⟩ : ∃ W, ((((((((w.alloc (.cells #[.int .i64 3, .int .i64 0, .int .i64 0, .string ⟨#[120]⟩, .slice none 0 0, .int .i64 1, .int .i64 0, .int .i64 1, .string ⟨#[]⟩, .slice none 0 0] 36)).alloc (.cells #[.int .i64 6, .int .i64 0, .int .i64 0, .string ⟨#[43]⟩, .slice (some ⟨w.heap.size, 0, none⟩) 2 2] 36)).alloc (.cells #[.string ⟨#[120]⟩] 9)).alloc (.cells #[.int .i64 6, .int .i64 0, .int .i64 0, .string ⟨#[43]⟩, .slice (some ⟨w.heap.size, 0, none⟩) 2 2] 36)).alloc (.cells #[.int .i64 4, .int .i64 0, .string ⟨#[]⟩, .string ⟨#[]⟩, .slice (some ⟨w.heap.size + 1 + 1 + 1, 0, none⟩) 1 1] 39)).alloc (.cells #[.int .i64 0, .string ⟨#[65]⟩, .slice (some ⟨w.heap.size + 1 + 1, 0, none⟩) 1 1, .slice (some ⟨w.heap.size + 1 + 1 + 1 + 1, 0, none⟩) 1 1, .int .i64 2, .int .i64 0, .string ⟨#[]⟩, .slice none 0 0, .slice none 0 0, .slice none 0 0, .bool false, .int .i64 0] 46)).alloc (.cells #[.int .i64 1, .int .i64 0, .int .i64 2, .string ⟨#[]⟩, .slice none 0 0] 36)).alloc (.cells #[.slice (some ⟨w.heap.size + 1 + 1 + 1 + 1 + 1, 0, none⟩) 1 1, .int .i64 0, .string ⟨#[65]⟩, .slice (some ⟨w.heap.size + 1 + 1 + 1 + 1 + 1 + 1, 0, none⟩) 1 1] 25)) = W := ⟨_, rfl⟩
  have n8 : Nb w W := by rw [← hW]; exact ((((((((Nb.refl w).alloc _).alloc _).alloc _).alloc _).alloc _).alloc _).alloc _).alloc _
  have b0 : W.heap[w.heap.size]? = some (.cells #[.int .i64 3, .int .i64 0, .int .i64 0, .string ⟨#[120]⟩, .slice none 0 0, .int .i64 1, .int .i64 0, .int .i64 1, .string ⟨#[]⟩, .slice none 0 0] 36 (0, 0)) := by rw [← hW]; exact (old_blk (old_blk (old_blk (old_blk (old_blk (old_blk (old_blk (new_blk _ _ (by simp only [World.size_alloc])) _) _) _) _) _) _) _)
  have b2 : W.heap[w.heap.size + 1 + 1]? = some (.cells #[.string ⟨#[120]⟩] 9 (0, 0)) := by rw [← hW]; exact (old_blk (old_blk (old_blk (old_blk (old_blk (new_blk _ _ (by simp only [World.size_alloc])) _) _) _) _) _)
  have b3 : W.heap[w.heap.size + 1 + 1 + 1]? = some (.cells #[.int .i64 6, .int .i64 0, .int .i64 0, .string ⟨#[43]⟩, .slice (some ⟨w.heap.size, 0, none⟩) 2 2] 36 (0, 0)) := by rw [← hW]; exact (old_blk (old_blk (old_blk (old_blk (new_blk _ _ (by simp only [World.size_alloc])) _) _) _) _)
  have b4 : W.heap[w.heap.size + 1 + 1 + 1 + 1]? = some (.cells #[.int .i64 4, .int .i64 0, .string ⟨#[]⟩, .string ⟨#[]⟩, .slice (some ⟨w.heap.size + 1 + 1 + 1, 0, none⟩) 1 1] 39 (0, 0)) := by rw [← hW]; exact (old_blk (old_blk (old_blk (new_blk _ _ (by simp only [World.size_alloc])) _) _) _)
  have b5 : W.heap[w.heap.size + 1 + 1 + 1 + 1 + 1]? = some (.cells #[.int .i64 0, .string ⟨#[65]⟩, .slice (some ⟨w.heap.size + 1 + 1, 0, none⟩) 1 1, .slice (some ⟨w.heap.size + 1 + 1 + 1 + 1, 0, none⟩) 1 1, .int .i64 2, .int .i64 0, .string ⟨#[]⟩, .slice none 0 0, .slice none 0 0, .slice none 0 0, .bool false, .int .i64 0] 46 (0, 0)) := by rw [← hW]; exact (old_blk (old_blk (new_blk _ _ (by simp only [World.size_alloc])) _) _)
  have b6 : W.heap[w.heap.size + 1 + 1 + 1 + 1 + 1 + 1]? = some (.cells #[.int .i64 1, .int .i64 0, .int .i64 2, .string ⟨#[]⟩, .slice none 0 0] 36 (0, 0)) := by rw [← hW]; exact (old_blk (new_blk _ _ (by simp only [World.size_alloc])) _)
  have b7 : W.heap[w.heap.size + 1 + 1 + 1 + 1 + 1 + 1 + 1]? = some (.cells #[.slice (some ⟨w.heap.size + 1 + 1 + 1 + 1 + 1, 0, none⟩) 1 1, .int .i64 0, .string ⟨#[65]⟩, .slice (some ⟨w.heap.size + 1 + 1 + 1 + 1 + 1 + 1, 0, none⟩) 1 1] 25 (0, 0)) := by rw [← hW]; exact (new_blk _ _ (by simp only [World.size_alloc]))
  rw [hW]
  clear hW
  have he := lPg_has b0 b3 b2 b4 b5 b6
  obtain ⟨P, hP⟩ : ∃ P, lPg (w.heap.size) (w.heap.size + 1 + 1) (w.heap.size + 1 + 1 + 1) (w.heap.size + 1 + 1 + 1 + 1) (w.heap.size + 1 + 1 + 1 + 1 + 1) (w.heap.size + 1 + 1 + 1 + 1 + 1 + 1) = P := ⟨_, rfl⟩
  have hsz : szP P ≤ 4096 := by rw [← hP]; exact Nat.le_of_ble_eq_true rfl
  have hdp : dpP P ≤ 64 := by rw [← hP]; exact Nat.le_of_ble_eq_true rfl
  have hgp : gP P = true := by rw [← hP]; rfl
  have htx : txP P = [97, 99, 116, 111, 114, 32, 65, 40, 120, 41, 32, 123, 32, 111, 117, 116, 32, 40, 120, 32, 43, 32, 49, 41, 59, 32, 115, 116, 111, 112, 32, 125, 10, 109, 97, 105, 110, 32, 65, 40, 50, 41, 10] := by rw [← hP]; exact lPg_text _ _ _ _ _ _
  have hc : P.cells.toArray = #[.slice (some ⟨w.heap.size + 1 + 1 + 1 + 1 + 1, 0, none⟩) 1 1, .int .i64 0, .string ⟨#[65]⟩, .slice (some ⟨w.heap.size + 1 + 1 + 1 + 1 + 1 + 1, 0, none⟩) 1 1] := by rw [← hP]; rfl
  rw [hP] at he
  have hgood := good_any W P he hsz hdp W (Nb.refl W)
  have hprint := fun w3 (h : Nb W w3) => print_any W (var_nbT hT n8) P he hsz hdp w3 h
  rw [allM_flP P (by omega), hgp, hc] at hgood
  simp only [hgp, if_true, htx, hc] at hprint
  replace hgood := Lib.hid hgood
  replace hprint := Lib.hid hprint
  clear hP hc htx hgp hsz hdp he b0 b2 b3 b4 b5 b6
  go_wp2_with (first
    | (refine wpList_load_row rfl 25 (.tmp 2) rfl _ rfl 25 #[.slice (some ⟨w.heap.size + 1 + 1 + 1 + 1 + 1, 0, none⟩) 1 1, .int .i64 0, .string ⟨#[65]⟩, .slice (some ⟨w.heap.size + 1 + 1 + 1 + 1 + 1 + 1, 0, none⟩) 1 1] (0, 0) _ b7 Tryd.underlying25 rfl (show (Tryd.prog.info? 25).map (·.size) = some 4 by kernel_rfl) ?_)
    | (go_at_call 5; refine (hgood.out).mono ?_; rintro r w3 ⟨rfl, g3⟩; have c7 := g3.block b7; have y0 := cell_of_row _ _ 0 _ _ _ c7; have y1 := cell_of_row _ _ 1 _ _ _ c7; have y2 := cell_of_row _ _ 2 _ _ _ c7; have y3 := cell_of_row _ _ 3 _ _ _ c7)
    | (go_at_call 7; refine (hprint.out _ g3).mono ?_; rintro r w4 ⟨rfl, g4⟩))
  go_ret
  exact ⟨rfl, n8.trans (g3.trans g4)⟩
end Go.Proofs.YtojogolmcclpoaaDoor
end
section
namespace Go.Proofs.YtojogolmcclpoaaDoor
open Go.ChangeShapes Go.WideShapes Go.ChangeAt Go.RowKit
set_option linter.unusedVariables false
set_option linter.unusedSimpArgs false
def laidG : List (String × DataW Unit) := [("math/bits.deBruijn32tab", Rows.laid_math_bits_deBruijn32tab), ("math/bits.deBruijn64tab", Rows.laid_math_bits_deBruijn64tab), ("internal/strconv.uint64pow10", Rows.laid_internal_strconv_uint64pow10)]
theorem pow_isG {H : Type} : (Rows.laid_internal_strconv_uint64pow10 : DataW H) = Lib.tabData .u64 Lib.pow10Tab := by rfl
theorem tw_of_laid {W : World} (h : laidMetH Tryd.prog laidG W) : Tw W := by
  rw [MakeChecks.laidMetH_plain _ _ _ (by kernel_rfl)] at h
  unfold laidG at h
  rw [pow_isG] at h
  exact Lib.tabIs_of_head (g := 0) (t := 131) (e := 123) (n := 20) (by kernel_rfl) (by kernel_rfl) Tryd.underlying131 Tryd.underlying123 (by kernel_rfl) (by kernel_rfl) (laidMet.tail (laidMet.tail h))
theorem door_metG (os : Os) (args : Array Value) : laidMetH Tryd.prog laidG ((World.doorLaid Tryd.prog 400 os).forCall (fun _ _ => 0) ⟨#[], args, []⟩).memory :=
  laidMetH_of_parts3 (fuel := 8) (laidMet_of_run' 8 (by kernel_rfl) (by kernel_rfl)) (by kernel_rfl) (by kernel_rfl)
/-! A program of one expression. -/
/-! Wrapped in tuples of one. -/
end Go.Proofs.YtojogolmcclpoaaDoor
end
