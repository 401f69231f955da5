/-
  Proved here: the law's own example. Conditions: the table of powers is laid. ¦ what the conditions on the laid tables give; a program of one expression; an expression wrapped in tuples. Conditions: stated. ¦ numbers as the reference writes them. Conditions: none.
-/
import Derived.Test.YtebcjocpmnapeaaGreatDoorSbh
import Derived.Test.YtebcjocpmnapeaaGreatDoorSas
import Derived.Test.YtebcjocpmnapeaaGreatDoorSar
import Derived.Test.YtebcjocpmnapeaaGreatDoorSaa
import Derived.Test.YtebcjocpmnapeaaGreatDoorSbb
import Derived.Stop.LaidErr
import Derived.LaidMore
import Derived.Stop.Joined
import Derived.Lib.LaidTab
import Derived.Shelf.Strconv.Itoa3
section
namespace Go.Proofs.YtebcjocpmnapeaaGreatDoor
open Go.RowKit
set_option linter.unusedVariables false
set_option linter.unusedSimpArgs false
set_option maxRecDepth 100000
set_option maxHeartbeats 4000000
attribute [-go_sem] run_eql_struct
theorem flat_at {s : Nat} : ∀ (rows : List (List Value)), (∀ r ∈ rows, r.length = s) → ∀ (i : Nat) (r : List Value), rows[i]? = some r → ∀ (j : Nat) (u : Value), r[j]? = some u → rows.flatten[i * s + j]? = some u
  | [], _, i, r, h, _, _, _ => by simp at h
  | x :: l, hs, 0, r, h, j, u, hu => by
    obtain rfl := Option.some.inj h
    rw [Nat.zero_mul, Nat.zero_add, List.flatten_cons, List.getElem?_append_left (List.getElem?_eq_some_iff.1 hu).1]
    exact hu
  | x :: l, hs, i + 1, r, h, j, u, hu => by
    have hx := hs x (List.mem_cons_self ..)
    rw [List.flatten_cons, List.getElem?_append_right (by rw [hx, Nat.succ_mul]; omega), hx, show (i + 1) * s + j - s = i * s + j by rw [Nat.succ_mul]; omega]
    exact flat_at l (fun y hy => hs y (List.mem_cons_of_mem _ hy)) i r h j u hu
theorem row_blk {W : World} {b s : Nat} {t : TypeId} {fr : Nat × Nat} (rows : List (List Value)) (hb : W.heap[b]? = some (.cells rows.flatten.toArray t fr)) (hs : ∀ r ∈ rows, r.length = s) (hl : rows.length ≤ 9223372036854775807) :
    RowS W s (.slice (some ⟨b, 0, none⟩) rows.length rows.length) rows := by
  refine ⟨_, _, rfl, Nat.le_refl _, hl, fun e => (nomatch e), fun i r hi => ⟨b, 0, rfl, fun j u hu => ?_⟩⟩
  rw [Nat.zero_add]
  exact (cell_of_row _ _ _ _ _ _ hb).trans (by rw [List.getElem?_toArray]; exact flat_at rows hs i r hi j u hu)
theorem row_nil (W : World) (s : Nat) : RowS W s (.slice none 0 0) [] := ⟨none, 0, rfl, Nat.le_refl _, Nat.zero_le _, fun _ => rfl, fun i r h => by simp at h⟩
theorem exs_nil (W : World) : ExsHas W (.slice none 0 0) [] := ⟨row_nil W 5, fun x h => by simp at h⟩
theorem itoa_dig {n : Int} (h0 : 0 ≤ n) (h1 : n < 10) : Lib.itoa n = [UInt8.ofNat (48 + n.toNat)] := by
  unfold Lib.itoa
  rw [if_neg (by omega), Lib.decDigits, dif_pos (by omega)]
/-! The example. -/
def lE (k n : Int) (s : Bs) : Ex := .mk k 0 n s (.slice none 0 0) []
def lSum (b : Nat) : Ex := .mk 6 0 0 [43] (.slice (some ⟨b, 0, none⟩) 2 2) [lE 3 0 [120], lE 1 1 []]
def lOut (b c : Nat) : St := ⟨4, 0, [], [], .slice (some ⟨c, 0, none⟩) 1 1, [lSum b]⟩
def lBody (b c d : Nat) : Bd := .mk (.slice (some ⟨d, 0, none⟩) 1 1) [lOut b c] 2 0 [] (.slice none 0 0) [] (.slice none 0 0) [] (.slice none 0 0) [] false 0
def lDef (b a c d : Nat) : Df := ⟨0, [65], .slice (some ⟨a, 0, none⟩) 1 1, [[120]], lBody b c d⟩
def lPg (b a c d f g : Nat) : Pg := ⟨.slice (some ⟨f, 0, none⟩) 1 1, [lDef b a c d], 0, [65], .slice (some ⟨g, 0, none⟩) 1 1, [lE 1 2 []]⟩
theorem lE_has (W : World) (k n : Int) (s : Bs) (hn : -9223372036854775808 ≤ n ∧ n < 9223372036854775808) (hs : s.length ≤ 9223372036854775807) : (lE k n s).Has W := .mk (row_nil W 5) (fun x h => by cases h) hn hs
theorem lPg_has {W : World} {b a c d f g : Nat}
    (h0 : W.heap[b]? = some (.cells ((lE 3 0 [120]).cells ++ (lE 1 1 []).cells).toArray 31 (0, 0)))
    (h1 : W.heap[c]? = some (.cells (lSum b).cells.toArray 31 (0, 0)))
    (h2 : W.heap[a]? = some (.cells #[sV [120]] 9 (0, 0)))
    (h3 : W.heap[d]? = some (.cells (lOut b c).cells.toArray 34 (0, 0)))
    (h4 : W.heap[f]? = some (.cells (lDef b a c d).cells.toArray 41 (0, 0)))
    (h5 : W.heap[g]? = some (.cells (lE 1 2 []).cells.toArray 31 (0, 0))) : (lPg b a c d f g).Has W := by
  have hsum : (lSum b).Has W := by
    refine .mk (row_blk [(lE 3 0 [120]).cells, (lE 1 1 []).cells] (by simpa using h0) (by simp [Ex.cells_len]) (by simp)) ?_ ⟨by simp [lSum, Ex.n], by simp [lSum, Ex.n]⟩ (by simp [lSum, Ex.name])
    intro x hx
    rcases List.mem_cons.1 hx with rfl | hx
    · exact lE_has W _ _ _ ⟨by decide, by decide⟩ (by decide)
    · rcases List.mem_cons.1 hx with rfl | hx
      · exact lE_has W _ _ _ ⟨by decide, by decide⟩ (by decide)
      · cases hx
  have hout : (lOut b c).Has W := by
    refine ⟨⟨row_blk [(lSum b).cells] (by simpa using h1) (by simp [Ex.cells_len]) (by simp), ?_⟩, by simp [lOut], by simp [lOut]⟩
    intro x hx
    rcases List.mem_cons.1 hx with rfl | hx
    · exact hsum
    · cases hx
  have hbody : (lBody b c d).Has W := by
    refine .mk (row_blk [(lOut b c).cells] (by simpa using h3) (by simp [St.cells_len]) (by simp)) ?_ (exs_nil W) (row_nil W 9) (fun x h => by cases h) (row_nil W 15) (fun x h => by cases h) (fun x h => by cases h) (fun x h => by cases h) (by simp [lBody, Bd.actor]) ⟨by simp [lBody, Bd.after], by simp [lBody, Bd.after]⟩
    intro x hx
    rcases List.mem_cons.1 hx with rfl | hx
    · exact hout
    · cases hx
  refine ⟨row_blk [(lDef b a c d).cells] (by simpa using h4) (by simp [Df.cells_len]) (by simp), ?_, ?_, ⟨row_blk [(lE 1 2 []).cells] (by simpa using h5) (by simp [Ex.cells_len]) (by simp), ?_⟩, ?_, by simp [lPg]⟩
  · intro x hx
    rcases List.mem_cons.1 hx with rfl | hx
    · exact row_blk [[sV [120]]] (by simpa using h2) (by simp) (by simp)
    · cases hx
  · intro x hx
    rcases List.mem_cons.1 hx with rfl | hx
    · exact hbody
    · cases hx
  · intro x hx
    rcases List.mem_cons.1 hx with rfl | hx
    · exact lE_has W _ _ _ ⟨by decide, by decide⟩ (by decide)
    · cases hx
  · intro x hx
    rcases List.mem_cons.1 hx with rfl | hx
    · refine ⟨by simp [lDef], fun s hs => ?_⟩
      rcases List.mem_cons.1 hs with rfl | hs
      · simp
      · cases hs
    · cases hx
theorem lPg_text (b a c d f g : Nat) : txP (lPg b a c d f g) = [97, 99, 116, 111, 114, 32, 65, 40, 120, 41, 32, 123, 32, 111, 117, 116, 32, 40, 120, 32, 43, 32, 49, 41, 59, 32, 115, 116, 111, 112, 32, 125, 10, 109, 97, 105, 110, 32, 65, 40, 50, 41, 10] := by
  have i1 : Lib.itoa 1 = [49] := itoa_dig (by decide) (by decide)
  have i2 : Lib.itoa 2 = [50] := itoa_dig (by decide) (by decide)
  have e1 : txE (lE 1 1 []) = [49] := i1
  have e2 : txE (lE 1 2 []) = [50] := i2
  have e3 : txE (lE 3 0 [120]) = [120] := rfl
  have e4 : txE (lSum b) = [40] ++ (txE (lE 3 0 [120]) ++ (([32] ++ ([43] ++ [32])) ++ (txE (lE 1 1 []) ++ [41]))) := rfl
  have e5 : txP (lPg b a c d f g) = (([97, 99, 116, 111, 114, 32] ++ ([65] ++ [40])) ++ (jnT [[120]] ++ ([41, 32] ++ (([123, 32] ++ ((((([111, 117, 116, 32] ++ jnT [txE (lSum b)]) ++ [59]) ++ [32]) ++ []) ++ ([115, 116, 111, 112] ++ [32, 125]))) ++ [10]))) ++ []) ++ ([109, 97, 105, 110, 32] ++ ((([65] ++ [40]) ++ (jnT [txE (lE 1 2 [])] ++ [41])) ++ [10])) := rfl
  rw [e5, e4, e1, e2, e3]
  rfl
theorem lives_any (w : World) (hT : Tw w) :
    Calls Tryz.prog 5 #[] w fun r w' => r = .returned (.bool true) ∧ Nb w w' := by
  go_enter Tryz.func5, Tryz.ntmps5
  go_upto_region 3 with (fail)
  obtain ⟨W, hW⟩ : ∃ W, ((((((((w.alloc (.cells #[.int .i64 3, .int .i64 0, .int .i64 0, .string ⟨#[120]⟩, .slice none 0 0, .int .i64 1, .int .i64 0, .int .i64 1, .string ⟨#[]⟩, .slice none 0 0] 31)).alloc (.cells #[.int .i64 6, .int .i64 0, .int .i64 0, .string ⟨#[43]⟩, .slice (some ⟨w.heap.size, 0, none⟩) 2 2] 31)).alloc (.cells #[.string ⟨#[120]⟩] 9)).alloc (.cells #[.int .i64 6, .int .i64 0, .int .i64 0, .string ⟨#[43]⟩, .slice (some ⟨w.heap.size, 0, none⟩) 2 2] 31)).alloc (.cells #[.int .i64 4, .int .i64 0, .string ⟨#[]⟩, .string ⟨#[]⟩, .slice (some ⟨w.heap.size + 1 + 1 + 1, 0, none⟩) 1 1] 34)).alloc (.cells #[.int .i64 0, .string ⟨#[65]⟩, .slice (some ⟨w.heap.size + 1 + 1, 0, none⟩) 1 1, .slice (some ⟨w.heap.size + 1 + 1 + 1 + 1, 0, none⟩) 1 1, .int .i64 2, .int .i64 0, .string ⟨#[]⟩, .slice none 0 0, .slice none 0 0, .slice none 0 0, .bool false, .int .i64 0] 41)).alloc (.cells #[.int .i64 1, .int .i64 0, .int .i64 2, .string ⟨#[]⟩, .slice none 0 0] 31)).alloc (.cells #[.slice (some ⟨w.heap.size + 1 + 1 + 1 + 1 + 1, 0, none⟩) 1 1, .int .i64 0, .string ⟨#[65]⟩, .slice (some ⟨w.heap.size + 1 + 1 + 1 + 1 + 1 + 1, 0, none⟩) 1 1] 25)) = W := ⟨_, rfl⟩
  have n8 : Nb w W := by rw [← hW]; exact ((((((((Nb.refl w).alloc _).alloc _).alloc _).alloc _).alloc _).alloc _).alloc _).alloc _
  have b0 : W.heap[w.heap.size]? = some (.cells #[.int .i64 3, .int .i64 0, .int .i64 0, .string ⟨#[120]⟩, .slice none 0 0, .int .i64 1, .int .i64 0, .int .i64 1, .string ⟨#[]⟩, .slice none 0 0] 31 (0, 0)) := by rw [← hW]; exact (old_blk (old_blk (old_blk (old_blk (old_blk (old_blk (old_blk (new_blk _ _ (by simp only [World.size_alloc])) _) _) _) _) _) _) _)
  have b2 : W.heap[w.heap.size + 1 + 1]? = some (.cells #[.string ⟨#[120]⟩] 9 (0, 0)) := by rw [← hW]; exact (old_blk (old_blk (old_blk (old_blk (old_blk (new_blk _ _ (by simp only [World.size_alloc])) _) _) _) _) _)
  have b3 : W.heap[w.heap.size + 1 + 1 + 1]? = some (.cells #[.int .i64 6, .int .i64 0, .int .i64 0, .string ⟨#[43]⟩, .slice (some ⟨w.heap.size, 0, none⟩) 2 2] 31 (0, 0)) := by rw [← hW]; exact (old_blk (old_blk (old_blk (old_blk (new_blk _ _ (by simp only [World.size_alloc])) _) _) _) _)
  have b4 : W.heap[w.heap.size + 1 + 1 + 1 + 1]? = some (.cells #[.int .i64 4, .int .i64 0, .string ⟨#[]⟩, .string ⟨#[]⟩, .slice (some ⟨w.heap.size + 1 + 1 + 1, 0, none⟩) 1 1] 34 (0, 0)) := by rw [← hW]; exact (old_blk (old_blk (old_blk (new_blk _ _ (by simp only [World.size_alloc])) _) _) _)
  have b5 : W.heap[w.heap.size + 1 + 1 + 1 + 1 + 1]? = some (.cells #[.int .i64 0, .string ⟨#[65]⟩, .slice (some ⟨w.heap.size + 1 + 1, 0, none⟩) 1 1, .slice (some ⟨w.heap.size + 1 + 1 + 1 + 1, 0, none⟩) 1 1, .int .i64 2, .int .i64 0, .string ⟨#[]⟩, .slice none 0 0, .slice none 0 0, .slice none 0 0, .bool false, .int .i64 0] 41 (0, 0)) := by rw [← hW]; exact (old_blk (old_blk (new_blk _ _ (by simp only [World.size_alloc])) _) _)
  have b6 : W.heap[w.heap.size + 1 + 1 + 1 + 1 + 1 + 1]? = some (.cells #[.int .i64 1, .int .i64 0, .int .i64 2, .string ⟨#[]⟩, .slice none 0 0] 31 (0, 0)) := by rw [← hW]; exact (old_blk (new_blk _ _ (by simp only [World.size_alloc])) _)
  have b7 : W.heap[w.heap.size + 1 + 1 + 1 + 1 + 1 + 1 + 1]? = some (.cells #[.slice (some ⟨w.heap.size + 1 + 1 + 1 + 1 + 1, 0, none⟩) 1 1, .int .i64 0, .string ⟨#[65]⟩, .slice (some ⟨w.heap.size + 1 + 1 + 1 + 1 + 1 + 1, 0, none⟩) 1 1] 25 (0, 0)) := by rw [← hW]; exact (new_blk _ _ (by simp only [World.size_alloc]))
  rw [hW]
  clear hW
  have he := lPg_has b0 b3 b2 b4 b5 b6
  obtain ⟨P, hP⟩ : ∃ P, lPg (w.heap.size) (w.heap.size + 1 + 1) (w.heap.size + 1 + 1 + 1) (w.heap.size + 1 + 1 + 1 + 1) (w.heap.size + 1 + 1 + 1 + 1 + 1) (w.heap.size + 1 + 1 + 1 + 1 + 1 + 1) = P := ⟨_, rfl⟩
  have hsz : szP P ≤ 4096 := by rw [← hP]; exact Nat.le_of_ble_eq_true rfl
  have hdp : dpP P ≤ 64 := by rw [← hP]; exact Nat.le_of_ble_eq_true rfl
  have hgp : gP P = true := by rw [← hP]; rfl
  have htx : txP P = [97, 99, 116, 111, 114, 32, 65, 40, 120, 41, 32, 123, 32, 111, 117, 116, 32, 40, 120, 32, 43, 32, 49, 41, 59, 32, 115, 116, 111, 112, 32, 125, 10, 109, 97, 105, 110, 32, 65, 40, 50, 41, 10] := by rw [← hP]; exact lPg_text _ _ _ _ _ _
  have hc : P.cells.toArray = #[.slice (some ⟨w.heap.size + 1 + 1 + 1 + 1 + 1, 0, none⟩) 1 1, .int .i64 0, .string ⟨#[65]⟩, .slice (some ⟨w.heap.size + 1 + 1 + 1 + 1 + 1 + 1, 0, none⟩) 1 1] := by rw [← hP]; rfl
  rw [hP] at he
  have hgood := good_any W P he hsz hdp W (Nb.refl W)
  have hprint := fun w3 (h : Nb W w3) => print_any W (var_nbT hT n8) P he hsz hdp w3 h
  rw [allM_flP P (by omega), hgp, hc] at hgood
  simp only [hgp, if_true, htx, hc] at hprint
  replace hgood := Lib.hid hgood
  replace hprint := Lib.hid hprint
  clear hP hc htx hgp hsz hdp he b0 b2 b3 b4 b5 b6
  go_wp2_with (first
    | (refine wpList_load_row rfl 25 (.tmp 2) rfl _ rfl 25 #[.slice (some ⟨w.heap.size + 1 + 1 + 1 + 1 + 1, 0, none⟩) 1 1, .int .i64 0, .string ⟨#[65]⟩, .slice (some ⟨w.heap.size + 1 + 1 + 1 + 1 + 1 + 1, 0, none⟩) 1 1] (0, 0) _ b7 Tryz.underlying25 rfl (show (Tryz.prog.info? 25).map (·.size) = some 4 by kernel_rfl) ?_)
    | (go_at_call 6; refine (hgood.out).mono ?_; rintro r w3 ⟨rfl, g3⟩; have c7 := g3.block b7; have y0 := cell_of_row _ _ 0 _ _ _ c7; have y1 := cell_of_row _ _ 1 _ _ _ c7; have y2 := cell_of_row _ _ 2 _ _ _ c7; have y3 := cell_of_row _ _ 3 _ _ _ c7)
    | (go_at_call 8; refine (hprint.out _ g3).mono ?_; rintro r w4 ⟨rfl, g4⟩))
  go_ret
  exact ⟨rfl, n8.trans (g3.trans g4)⟩
end Go.Proofs.YtebcjocpmnapeaaGreatDoor
end
section
namespace Go.Proofs.YtebcjocpmnapeaaGreatDoor
open Go.ChangeShapes Go.WideShapes Go.ChangeAt Go.RowKit
set_option linter.unusedVariables false
set_option linter.unusedSimpArgs false
def laidG : List (String × DataW Unit) := [("math/bits.deBruijn32tab", Rows.laid_math_bits_deBruijn32tab), ("math/bits.deBruijn64tab", Rows.laid_math_bits_deBruijn64tab), ("internal/strconv.uint64pow10", Rows.laid_internal_strconv_uint64pow10)]
theorem pow_isG {H : Type} : (Rows.laid_internal_strconv_uint64pow10 : DataW H) = Lib.tabData .u64 Lib.pow10Tab := by rfl
theorem tw_of_laid {W : World} (h : laidMetH Tryz.prog laidG W) : Tw W := by
  rw [MakeChecks.laidMetH_plain _ _ _ (by kernel_rfl)] at h
  unfold laidG at h
  rw [pow_isG] at h
  exact Lib.tabIs_of_head (g := 0) (t := 138) (e := 130) (n := 20) (by kernel_rfl) (by kernel_rfl) Tryz.underlying138 Tryz.underlying130 (by kernel_rfl) (by kernel_rfl) (laidMet.tail (laidMet.tail h))
theorem door_metG (os : Os) (args : Array Value) : laidMetH Tryz.prog laidG ((World.doorLaid Tryz.prog 400 os).forCall (fun _ _ => 0) ⟨#[], args, []⟩).memory :=
  laidMetH_of_parts3 (fuel := 8) (laidMet_of_run' 8 (by kernel_rfl) (by kernel_rfl)) (by kernel_rfl) (by kernel_rfl)
/-! A program of one expression. -/
/-! Wrapped in tuples of one. -/
end Go.Proofs.YtebcjocpmnapeaaGreatDoor
end
section
namespace Go.Proofs.YtebcjocpmnapeaaGreatDoor
open Go.ChangeShapes Go.WideShapes Go.ChangeAt Go.RowKit
set_option linter.unusedVariables false
set_option linter.unusedSimpArgs false
theorem blk_made (w : World) (o : Obj) {W : World} {n : Nat} (hW : w.alloc o = W) (hn : w.heap.size = n) : W.heap[n]? = some o := by
  subst hW hn; exact heap_alloc_new w o
theorem cell1 {w : World} {n : Nat} {t : TypeId} {v : Value} (h : w.heap[n]? = some (.cells #[v] t (0, 0))) : w.cell? ⟨n, 0, none⟩ = some v := cell_of_row _ _ 0 _ _ _ h
theorem ret_s {a b : ByteArray} (h : a = b) : Ending.returned (.string a) = .returned (.string b) := by rw [h]
theorem ddec_lt (u : Nat) (h : u < 10) : Lib.decDigits u = [UInt8.ofNat (48 + u)] := by rw [Lib.decDigits, dif_pos h]
theorem ddec_ge (u : Nat) (h : ¬ u < 10) : Lib.decDigits u = Lib.decDigits (u / 10) ++ [UInt8.ofNat (48 + u % 10)] := by rw [Lib.decDigits, dif_neg h]
theorem ddec_len (u k : Nat) (hk : 1 ≤ k) (h : u < 10 ^ k) : (Lib.decDigits u).length ≤ k := by
  induction u using Nat.strongRecOn generalizing k with
  | _ u ih =>
    by_cases h1 : u < 10
    · rw [ddec_lt u h1]; simpa using hk
    · rw [ddec_ge u h1, List.length_append]
      have : 2 ≤ k := by
        rcases Nat.lt_or_ge k 2 with h2 | h2
        · obtain rfl : k = 1 := by omega
          omega
        · exact h2
      have := ih (u / 10) (by omega) (k - 1) (by omega) (by
        have e : k = (k - 1) + 1 := by omega
        rw [e, Nat.pow_succ] at h
        omega)
      simp; omega
theorem conv1 (w : World) (x : Int) : (convert 50 9 (.slice (some ⟨w.heap.size, 0, none⟩) 1 1)).run Tryz.prog (w.alloc (Obj.cells #[.int .u8 (x % 256)] 5)) = .ok (.string ⟨([UInt8.ofNat (x % 256).toNat] : Bs).toArray⟩) (w.alloc (Obj.cells #[.int .u8 (x % 256)] 5)) := by
  refine run_convert_bytes_back _ 50 9 5 ⟨w.heap.size, 0, none⟩ 1 [UInt8.ofNat (x % 256).toNat] Tryz.underlying50 Tryz.underlying5 Tryz.underlying9 ?_
  intro j hj
  have hj0 : j = 0 := by simp at hj; exact hj
  subst hj0
  have h1 := cell1 (blk_made w (Obj.cells #[.int .u8 (x % 256)] 5) rfl rfl)
  refine Eq.trans h1 ?_
  have h2 : (UInt8.ofNat (x % 256).toNat).toNat = (x % 256).toNat := by rw [UInt8.toNat_ofNat']; omega
  simp only [List.getElem_cons_zero, h2]
  congr 2
  omega
theorem dig_neg (m : Int) (h : m.tmod 10 < 0) : UInt8.ofNat (wrap64 (48 + wrap64 (-m.tmod 10)) % 256).toNat = UInt8.ofNat (48 + m.natAbs % 10) := by
  have e : (m.tmod 10).natAbs = m.natAbs % 10 := Int.natAbs_tmod m 10
  congr 1
  unfold wrap64
  omega
theorem dig_pos (m : Int) (h : 0 ≤ m.tmod 10) : UInt8.ofNat (wrap64 (48 + m.tmod 10) % 256).toNat = UInt8.ofNat (48 + m.natAbs % 10) := by
  have e : (m.tmod 10).natAbs = m.natAbs % 10 := Int.natAbs_tmod m 10
  congr 1
  unfold wrap64
  omega
theorem dig_end (m n : Int) (l : Bs) (h : m.tdiv 10 = 0) (hD : Lib.decDigits m.natAbs ++ l = Lib.decDigits n.natAbs) : UInt8.ofNat (48 + m.natAbs % 10) :: l = Lib.decDigits n.natAbs := by
  have e : (m.tdiv 10).natAbs = m.natAbs / 10 := Int.natAbs_tdiv m 10
  rw [h, show ((0 : Int).natAbs) = 0 from rfl] at e
  have e2 : m.natAbs < 10 := by
    generalize m.natAbs = u at *
    omega
  rw [ddec_lt _ e2] at hD
  rw [Nat.mod_eq_of_lt e2]; exact hD
theorem dig_step (m n : Int) (l : Bs) (h : m.tdiv 10 ≠ 0) (hD : Lib.decDigits m.natAbs ++ l = Lib.decDigits n.natAbs) :
    Lib.decDigits (m.tdiv 10).natAbs ++ (UInt8.ofNat (48 + m.natAbs % 10) :: l) = Lib.decDigits n.natAbs ∧ (m.tdiv 10).natAbs < m.natAbs ∧ -9223372036854775808 ≤ m.tdiv 10 ∧ m.tdiv 10 ≤ 9223372036854775807 ∨ ¬ (-9223372036854775808 ≤ m ∧ m ≤ 9223372036854775807) := by
  have e : (m.tdiv 10).natAbs = m.natAbs / 10 := Int.natAbs_tdiv m 10
  have q1 := Int.natAbs_eq m
  have q2 := Int.natAbs_eq (m.tdiv 10)
  have e2 : ¬ m.natAbs < 10 := by
    intro c
    rw [Nat.div_eq_of_lt c] at e
    exact h (Int.natAbs_eq_zero.1 e)
  rw [ddec_ge _ e2] at hD
  by_cases c : -9223372036854775808 ≤ m ∧ m ≤ 9223372036854775807
  · refine Or.inl ⟨?_, ?_⟩
    · rw [e, ← hD, List.append_assoc]; rfl
    · clear hD h
      generalize m.natAbs = u at *
      generalize (m.tdiv 10).natAbs = v at *
      generalize m.tdiv 10 = t at *
      omega
  · exact Or.inr c
theorem app1 (b : UInt8) (l : Bs) : (⟨#[b]⟩ : ByteArray) ++ ⟨l.toArray⟩ = ⟨(b :: l).toArray⟩ := ByteArray.mk_append_mk [b] l
set_option maxRecDepth 100000 in
set_option maxHeartbeats 1000000 in
theorem digits_any (n : Int) (h0 : -9223372036854775808 ≤ n) (h1 : n ≤ 9223372036854775807) (w : World) :
    Calls Tryz.prog 94 #[.int .i64 n] w fun e w' => e = .returned (.string ⟨(Lib.decDigits n.natAbs).toArray⟩) ∧ Nb w w' := by
  have hcv := conv1
  have hlen := ddec_len n.natAbs 19 (by decide) (by omega)
  go_enter Tryz.func94, Tryz.ntmps94
  go_wp2_with fail
  go_loopw [0, 3] (fun f o wr => (∃ (m : Int) (l : Bs), -9223372036854775808 ≤ m ∧ m ≤ 9223372036854775807 ∧ f = .int .i64 m ∧ o = .string ⟨l.toArray⟩ ∧ Lib.decDigits m.natAbs ++ l = Lib.decDigits n.natAbs) ∧ Nb w wr) (fun f _ _ => (intOf f).natAbs)
  case atStart => exact ⟨⟨n, [], h0, h1, rfl, rfl, List.append_nil _⟩, Nb.refl _⟩
  case round =>
    obtain ⟨⟨m, l, m0, m1, rfl, rfl, hD⟩, hN⟩ := hrel
    have hl : l.length ≤ 19 := by have := congrArg List.length hD; rw [List.length_append] at this; omega
    have hD := Lib.hid hD
    clear hlen
    go_wp2_with fail
    · have a1 : m.tdiv 10 = 0 := eq_of_beq (by assumption)
      go_ret
      exact ⟨ret_s (by rw [app1, dig_neg m (by assumption), dig_end m n l a1 hD.out]), hN.alloc _⟩
    · have a1 : ¬ m.tdiv 10 = 0 := ne_of_beq_false (by assumption)
      rcases dig_step m n l a1 hD.out with ⟨g1, g2, g3, g4⟩ | g
      · exact ⟨⟨⟨_, _, g3, g4, rfl, by rw [app1, dig_neg m (by assumption)], g1⟩, hN.alloc _⟩, g2⟩
      · exact absurd ⟨m0, m1⟩ g
    · have a1 : m.tdiv 10 = 0 := eq_of_beq (by assumption)
      go_ret
      exact ⟨ret_s (by rw [app1, dig_pos m (by omega), dig_end m n l a1 hD.out]), hN.alloc _⟩
    · have a1 : ¬ m.tdiv 10 = 0 := ne_of_beq_false (by assumption)
      rcases dig_step m n l a1 hD.out with ⟨g1, g2, g3, g4⟩ | g
      · exact ⟨⟨⟨_, _, g3, g4, rfl, by rw [app1, dig_pos m (by omega)], g1⟩, hN.alloc _⟩, g2⟩
      · exact absurd ⟨m0, m1⟩ g
set_option maxRecDepth 100000 in
set_option maxHeartbeats 1000000 in
theorem number_any (n : Int) (h0 : -9223372036854775808 ≤ n) (h1 : n ≤ 9223372036854775807) (w : World) :
    Calls Tryz.prog 84 #[.int .i64 n] w fun e w' => e = .returned (.string ⟨(Lib.itoa n).toArray⟩) ∧ Nb w w' := by
  have HD := Lib.hid (digits_any n h0 h1)
  have hlen := ddec_len n.natAbs 19 (by decide) (by omega)
  have e1 : n < 0 → Lib.itoa n = 45 :: Lib.decDigits n.natAbs := fun h => if_pos h
  have e2 : ¬ n < 0 → Lib.itoa n = Lib.decDigits n.natAbs := fun h => by unfold Lib.itoa; rw [if_neg h]; congr 1; omega
  generalize Lib.decDigits n.natAbs = D at *
  generalize Lib.itoa n = R at *
  have e1 := Lib.hid e1
  have e2 := Lib.hid e2
  rename_i g1 g2
  clear g1 g2
  go_enter Tryz.func84, Tryz.ntmps84
  by_cases h : n < 0
  · go_wp2_with fail
    refine (HD.out _).mono ?_
    rintro e w1 ⟨rfl, hn⟩
    go_wp2_with fail
    go_ret
    exact ⟨ret_s (by rw [e1.out h, app1]), hn⟩
  · go_wp2_with fail
    refine (HD.out _).mono ?_
    rintro e w1 ⟨rfl, hn⟩
    go_wp2_with fail
    go_ret
    exact ⟨ret_s (by rw [e2.out h]), hn⟩
end Go.Proofs.YtebcjocpmnapeaaGreatDoor
end
