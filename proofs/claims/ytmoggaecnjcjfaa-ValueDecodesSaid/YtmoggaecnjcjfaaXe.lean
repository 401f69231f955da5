/-
  Proved here: what Decode answers, the code's. Conditions: the memory holds the words; they are words.
-/
import Derived.Test.YtmoggaecnjcjfaaXd
namespace Go.Proofs.Ytmoggaecnjcjfaa
open Go.RowKit Go.ChangeMaps
set_option linter.unusedVariables false
set_option linter.unusedSimpArgs false
set_option maxRecDepth 100000
set_option maxHeartbeats 4000000
/-- What has come of a word, for who asks. -/
def VAns (R : Rs) (W0 : World) (r : Ending) (w' : World) : Prop :=
  Nb W0 w' ∧ match R with
    | .bad e => e ≠ 0 ∧ r = .returned (.tuple #[.agg #[.int .i64 0, .int .i64 0, .slice none 0 0], .int .i64 e])
    | .good p => ∃ v : Vl, r = .returned (.tuple #[.agg v.cells.toArray, .int .i64 0]) ∧ v.sh = p ∧ v.Has w' ∧ v.Frv W0.heap.size w' ∧ v.may = true ∧ v.dp ≤ 64
theorem alloc_sz (w : World) (o : Obj) : (w.alloc o).heap.size = w.heap.size + 1 := Array.size_push ..
theorem dec_any (w : World) (xs : List Int) (bs : Int) (A : Option Addr) (n c : Nat) (hv : WdsR w (.slice A n c) xs) (hx : ∀ x ∈ xs, 0 ≤ x ∧ x < 18446744073709551616) (hl : xs.length ≤ 500) (hb0 : 0 ≤ bs) (hb1 : bs < 18446744073709551616) (wd : Int) (hd0 : 0 ≤ wd) (hd1 : wd < 18446744073709551616) :
    Calls Try.prog 20 #[.int .u64 wd, .slice A n c, .int .u64 bs] w (VAns (decV xs bs 64 wd 0).2 w) := by
  obtain ⟨R, hR⟩ : ∃ R, decV xs bs 64 wd 0 = R := ⟨_, rfl⟩
  rw [hR]
  go_enter Try.func20, Try.ntmps20
  go_upto_region 4 with (fail)
  obtain ⟨p, hp⟩ : ∃ p, w.heap.size = p := ⟨_, rfl⟩
  rw [hp]
  obtain ⟨O5, hO5⟩ : ∃ o : Obj, Obj.cells #[.func (.func 38) #[] #[.pointer (some ⟨p + 1 + 1 + 1, 0, none⟩), .pointer (some ⟨p, 0, none⟩), .pointer (some ⟨p + 1, 0, none⟩), .pointer (some ⟨p + 1 + 1 + 1 + 1, 0, none⟩)]] 60 = o := ⟨_, rfl⟩
  rw [hO5]
  obtain ⟨W1, h1⟩ : ∃ W, w.alloc (Obj.cells #[Value.slice A n c] 31) = W := ⟨_, rfl⟩
  rw [h1]
  obtain ⟨W2, h2⟩ : ∃ W, W1.alloc (Obj.cells #[.int .u64 bs] 32) = W := ⟨_, rfl⟩
  rw [h2]
  obtain ⟨W3, h3⟩ : ∃ W, W2.alloc (Obj.cells #[.int .i64 0, .int .i64 0, .slice none 0 0] 24) = W := ⟨_, rfl⟩
  rw [h3]
  obtain ⟨W4, h4⟩ : ∃ W, W3.alloc (Obj.cells #[.int .i64 0] 3) = W := ⟨_, rfl⟩
  rw [h4]
  obtain ⟨W5, h5⟩ : ∃ W, W4.alloc O5 = W := ⟨_, rfl⟩
  rw [h5]
  subst hO5
  have s1 : W1.heap.size = p + 1 := by rw [← h1, ← hp]; exact alloc_sz _ _
  have s2 : W2.heap.size = p + 1 + 1 := by rw [← h2, ← s1]; exact alloc_sz _ _
  have s3 : W3.heap.size = p + 1 + 1 + 1 := by rw [← h3, ← s2]; exact alloc_sz _ _
  have s4 : W4.heap.size = p + 1 + 1 + 1 + 1 := by rw [← h4, ← s3]; exact alloc_sz _ _
  have s5 : W5.heap.size = p + 1 + 1 + 1 + 1 + 1 := by rw [← h5, ← s4]; exact alloc_sz _ _
  have n1 : Nb w W1 := by rw [← h1]; exact (Nb.refl w).alloc _
  have n2 : Nb W1 W2 := by rw [← h2]; exact (Nb.refl W1).alloc _
  have n3 : Nb W2 W3 := by rw [← h3]; exact (Nb.refl W2).alloc _
  have n4 : Nb W3 W4 := by rw [← h4]; exact (Nb.refl W3).alloc _
  have n5 : Nb W4 W5 := by rw [← h5]; exact (Nb.refl W4).alloc _
  have b1 := ((n2.trans n3).trans (n4.trans n5)).block (show W1.heap[p]? = some _ by rw [← h1, ← hp]; exact new_blk _ _ rfl)
  have b2 := (n3.trans (n4.trans n5)).block (show W2.heap[p + 1]? = some _ by rw [← h2, ← s1]; exact new_blk _ _ rfl)
  have b3 := (n4.trans n5).block (show W3.heap[p + 1 + 1]? = some _ by rw [← h3, ← s2]; exact new_blk _ _ rfl)
  have b4 := n5.block (show W4.heap[p + 1 + 1 + 1]? = some _ by rw [← h4, ← s3]; exact new_blk _ _ rfl)
  have b5 : W5.heap[p + 1 + 1 + 1 + 1]? = some (.cells #[.func (.func 38) #[] #[.pointer (some ⟨p + 1 + 1 + 1, 0, none⟩), .pointer (some ⟨p, 0, none⟩), .pointer (some ⟨p + 1, 0, none⟩), .pointer (some ⟨p + 1 + 1 + 1 + 1, 0, none⟩)]] 60 (0, 0)) := by rw [← h5, ← s4]; exact new_blk _ _ rfl
  have n05 : Nb w W5 := n1.trans ((n2.trans n3).trans (n4.trans n5))
  clear h1 h2 h3 h4 h5 n1 n2 n3 n4 n5 s1 s2 s3 s4
  obtain ⟨rb, hrb⟩ : ∃ b, p + 1 + 1 + 1 + 1 = b := ⟨_, rfl⟩
  rw [hrb] at b5 s5 ⊢
  obtain ⟨mt, hmt⟩ : ∃ b, p + 1 + 1 + 1 = b := ⟨_, rfl⟩
  rw [hmt] at b5 b4 ⊢
  obtain ⟨S, hS⟩ : ∃ b, p + 1 + 1 = b := ⟨_, rfl⟩
  rw [hS] at b3 ⊢
  obtain ⟨bb, hbb⟩ : ∃ b, p + 1 = b := ⟨_, rfl⟩
  rw [hbb] at b2 b5 ⊢
  have q0 := cell_of_row _ _ 0 _ _ _ b5
  have hc := decode_any w mt p bb rb (.slice A n c) xs bs hv hx hl hb0 hb1 64 0 rfl wd hd0 hd1 0 (by omega) W5 ⟨n05, b4, b1, b2, b5, by omega⟩
  have hSm : S ≠ mt := by omega
  have hS5 : S < W5.heap.size := by omega
  have hwS : w.heap.size ≤ S := by omega
  have hwm : w.heap.size ≤ mt := by omega
  rw [hR] at hc
  clear hR hrb hmt hS hbb hp b1 b2 b4 b5 s5
  obtain ⟨m, rs⟩ := R
  cases rs with
  | bad e =>
    replace hc : Hid (Calls Try.prog 38 #[.int .u64 wd, .int .i64 0, .pointer (some ⟨mt, 0, none⟩), .pointer (some ⟨p, 0, none⟩), .pointer (some ⟨bb, 0, none⟩), .pointer (some ⟨rb, 0, none⟩)] W5 (fun r w' => r = .returned (.tuple #[.agg #[.int .i64 0, .int .i64 0, .slice none 0 0], .int .i64 e]) ∧ Gb mt W5 w' ∧ e ≠ 0)) := Lib.hid (hc.mono fun r w' h => ⟨h.2.2.2, h.1, h.2.2.1⟩)
    go_wp2_with (go_at_call 38; refine (hc.out).mono ?_; rintro r w6 ⟨rfl, g6, he⟩; have bS := g6.block b3 hSm; have c0 := cell_of_row _ _ 0 _ _ _ bS; have c1 := cell_of_row _ _ 1 _ _ _ bS; have c2 := cell_of_row _ _ 2 _ _ _ bS; have f0 := frozen_blk bS 0; have f1 := frozen_blk bS 1; have f2 := frozen_blk bS 2)
    refine bodyPost_ret (results_rt rfl _ _ S _ rfl (run_loadVar_row _ _ _ _ _ _ _ (set3_all' bS) Try.underlying24 rfl (by kernel_rfl))) rfl ?_
    have n6 := g6.nb n05 hwm
    exact ⟨((n6.setCell (p := ⟨S, 0, none⟩) hwS _).setCell (p := ⟨S, 1, none⟩) hwS _).setCell (p := ⟨S, 2, none⟩) hwS _, he, rfl⟩
  | good pq =>
    replace hc : Hid (Calls Try.prog 38 #[.int .u64 wd, .int .i64 0, .pointer (some ⟨mt, 0, none⟩), .pointer (some ⟨p, 0, none⟩), .pointer (some ⟨bb, 0, none⟩), .pointer (some ⟨rb, 0, none⟩)] W5 (fun r w' => ∃ (kd nn : Int) (A' : Option Addr) (L' c' : Nat) (l : List Vl), r = .returned (.tuple #[.agg #[.int .i64 kd, .int .i64 nn, .slice A' L' c'], .int .i64 0]) ∧ Gb mt W5 w' ∧ Hid ((Vl.mk kd nn (.slice A' L' c') l).sh = pq ∧ (Vl.mk kd nn (.slice A' L' c') l).Has w' ∧ (Vl.mk kd nn (.slice A' L' c') l).Frv W5.heap.size w' ∧ (Vl.mk kd nn (.slice A' L' c') l).may = true ∧ (Vl.mk kd nn (.slice A' L' c') l).dp ≤ 64))) := Lib.hid (hc.mono fun r w' h => by
      obtain ⟨ha, hb, v, hc, hd, he, hf, hg, hh⟩ := h
      obtain ⟨A', c', hav, -, -, -⟩ := he.vls.head
      cases v with
      | mk kd nn av l =>
        simp only [Vl.av, Vl.args] at hav
        subst hav
        exact ⟨kd, nn, A', _, c', l, hc, ha, Lib.hid ⟨hd, he, hf, hg, hh⟩⟩)
    go_wp2_with (go_at_call 38; refine (hc.out).mono ?_; rintro r w6 ⟨kd, nn, A', L', c', l, rfl, g6, hv6⟩; have bS := g6.block b3 hSm; have c0 := cell_of_row _ _ 0 _ _ _ bS; have c1 := cell_of_row _ _ 1 _ _ _ bS; have c2 := cell_of_row _ _ 2 _ _ _ bS; have f0 := frozen_blk bS 0; have f1 := frozen_blk bS 1; have f2 := frozen_blk bS 2)
    refine bodyPost_ret (results_rt rfl _ _ S _ rfl (run_loadVar_row _ _ _ _ _ _ _ (set3_all' bS) Try.underlying24 rfl (by kernel_rfl))) rfl ?_
    have n6 := g6.nb n05 hwm
    obtain ⟨h1, h2, h3, h4, h5⟩ := hv6.out
    obtain ⟨p1, q1⟩ := keeps_set ⟨S, 0, none⟩ hS5 (.int .i64 kd) h2 h3
    obtain ⟨p1, q1⟩ := keeps_set ⟨S, 1, none⟩ hS5 (.int .i64 nn) p1 q1
    obtain ⟨p1, q1⟩ := keeps_set ⟨S, 2, none⟩ hS5 (.slice A' L' c') p1 q1
    exact ⟨((n6.setCell (p := ⟨S, 0, none⟩) hwS _).setCell (p := ⟨S, 1, none⟩) hwS _).setCell (p := ⟨S, 2, none⟩) hwS _, Vl.mk kd nn (.slice A' L' c') l, rfl, h1, p1, q1.mono (by omega), h4, h5⟩
end Go.Proofs.Ytmoggaecnjcjfaa
