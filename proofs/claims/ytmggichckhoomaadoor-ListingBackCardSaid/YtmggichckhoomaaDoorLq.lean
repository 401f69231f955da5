/-
  Proved here: the examples of the chapter on lines. Conditions: the variables hold what their texts lay.
-/
import Derived.Test.YtmggichckhoomaaDoorLp
namespace Go.Proofs.YtmggichckhoomaaDoor
open Go.ChangeShapes Go.WideShapes Go.ChangeAt Go.RowKit
set_option linter.unusedVariables false
set_option linter.unusedSimpArgs false
attribute [local go_sem ↓] eq7
theorem itoa_dig (n : Nat) (h : n < 10) : Lib.itoa (n : Int) = [UInt8.ofNat (48 + n)] := by
  unfold Lib.itoa; rw [if_neg (by omega), Int.toNat_natCast]; exact dec_lt n h
theorem live_text : textL 79 5 6 7 0 true true = [97, 109, 111, 115, 119, 97, 112, 46, 100, 46, 97, 113, 114, 108, 32, 120, 53, 32, 120, 54, 32, 120, 55] := by
  unfold textL tailL pcx
  rw [show refRow 79 = rowTab.getD 78 (0, 0, 0, 0) from ref_yes 79 (by decide) (by decide), show (Lib.itoa 5) = [53] from itoa_dig 5 (by decide), show (Lib.itoa 6) = [54] from itoa_dig 6 (by decide), show (Lib.itoa 7) = [55] from itoa_dig 7 (by decide)]
  rfl
theorem live_addi : TextV 22 1 2 0 (-5) false false = [97, 100, 100, 105, 32, 120, 49, 32, 120, 50, 32, 45, 53] := by
  have hm : Lib.itoa (-5) = [45, 53] := by
    unfold Lib.itoa; rw [if_pos (by decide), show ((-5 : Int).natAbs) = 5 from rfl, dec_lt 5 (by decide)]; rfl
  unfold TextV
  rw [if_pos (by decide +kernel)]
  unfold textL tailL pcx pcn
  rw [show refRow 22 = rowTab.getD 21 (0, 0, 0, 0) from ref_yes 22 (by decide) (by decide), show (Lib.itoa 1) = [49] from itoa_dig 1 (by decide), show (Lib.itoa 2) = [50] from itoa_dig 2 (by decide), hm]
  rfl
theorem live_pi : PI [97, 109, 111, 115, 119, 97, 112, 46, 100, 46, 97, 113, 114, 108, 32, 120, 53, 32, 120, 54, 32, 120, 55] = some (79, 5, 6, 7, 0, true, true) := by
  rw [← live_text]
  exact pi_some (i := (79, 5, 6, 7, 0, true, true)) (by show GoodB 79 5 6 7 0 true true = true; decide +kernel)
set_option maxRecDepth 100000 in
set_option maxHeartbeats 4000000 in
theorem tlives_any (w : World) (hL : Lx w) : Calls Tryd.prog 5 #[] w fun e w' => e = .returned (.bool true) ∧ Nb w w' := by
  have HP := Lib.hid (parse_any [97, 109, 111, 115, 119, 97, 112, 46, 100, 46, 97, 113, 114, 108, 32, 120, 53, 32, 120, 54, 32, 120, 55] (by decide))
  unfold PV PE at HP
  rw [live_pi] at HP
  have HT := Lib.hid (text_any 22 1 2 0 (-5) false false (by decide) (by decide))
  rw [live_addi] at HT
  go_enter Tryd.func5, Tryd.ntmps5
  go_wp2_with fail
  refine (HP.out _ hL).mono ?_
  rintro e w1 ⟨rfl, n1⟩
  simp only [instA, Option.getD_some, Option.isSome_some, if_true]
  go_wp2_with fail
  obtain ⟨W2, h1⟩ : ∃ W2, w1.alloc (Obj.cells #[.int .i64 79, .int .i64 5, .int .i64 6, .int .i64 7, .int .i64 0, .bool true, .bool true] 33) = W2 := ⟨_, rfl⟩
  have k2 := blk_made w1 _ h1 rfl
  have hn : Nb w1 W2 := by rw [← h1]; exact (Nb.refl _).alloc _
  have n2 := n1.trans hn
  rw [h1]
  clear h1 hn
  refine (HT.out _ (hL.of_nb n2).1).mono ?_
  rintro e w3 ⟨rfl, hn⟩
  have n3 := n2.trans hn
  replace k2 := hn.block k2
  obtain ⟨z, c0, c1, c2, c3, c4, c5, c6⟩ := cells7 k2
  have hE : EqI 79 5 6 7 0 true true 79 5 6 7 0 true true = true := by decide
  go_wp2_with fail
  go_ret
  exact ⟨rfl, n3⟩
end Go.Proofs.YtmggichckhoomaaDoor
