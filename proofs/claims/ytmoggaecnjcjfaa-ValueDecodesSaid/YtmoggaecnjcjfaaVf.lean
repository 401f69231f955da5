/-
  Proved here: the code's Good, and Words. Conditions: the memory holds the value; of its blocks nothing is frozen.
-/
import Derived.Test.YtmoggaecnjcjfaaVd
import Derived.Laws.EntriesVeiled
namespace Go.Proofs.Ytmoggaecnjcjfaa
open Go.RowKit Go.ChangeMaps
set_option linter.unusedVariables false
set_option linter.unusedSimpArgs false
set_option maxRecDepth 100000
set_option maxHeartbeats 4000000
theorem measured_any (W0 : World) (v : Vl) (hv : v.Has W0) (hz : v.Fre W0) (w : World) (hw : Nb W0 w) :
    Calls Try.prog 36 #[.agg v.cells.toArray] w fun r w' => r = .returned (.tuple #[szV v v.good, .bool v.good]) ∧ Nb w w' := by
  obtain ⟨A, cap, hav, hcap, hlen, hA⟩ := hv.vls.head
  have hcs : v.cells.toArray = #[.int .i64 v.kind, .int .i64 v.n, .slice A v.args.length cap] := by rw [← hav]; rfl
  have hgd : okV v 0 = v.good := by unfold okV Vl.good; rw [Nat.zero_add]
  rw [hcs]
  obtain ⟨L, hL⟩ : ∃ L, v.args.length = L := ⟨_, rfl⟩
  rw [hL] at hcs ⊢
  clear hL hav
  replace hcs := Lib.hid hcs
  replace hgd := Lib.hid hgd
  obtain ⟨s0, s1, hs⟩ : ∃ s0 s1 : Nat, szV v v.good = .agg #[.int .i64 (s0 : Int), .int .i64 (s1 : Int)] := by
    cases v.good with
    | true => exact ⟨_, _, rfl⟩
    | false => exact ⟨0, 0, rfl⟩
  replace hs := Lib.hid hs
  have hmm := @run_makeMap Try.prog
  go_enter Try.func36, Try.ntmps36
  go_upto_region 4 with (fail)
  obtain ⟨W1, hW⟩ : ∃ W1, ((((w.alloc (Obj.cells #[.int .i64 v.kind, .int .i64 v.n, .slice A L cap] 24)).alloc (Obj.cells #[.int .i64 0, .int .i64 0] 57)).alloc (Obj.map #[] 0)).alloc (Obj.cells #[.map (some (w.heap.size + 1 + 1))] 70)).alloc (Obj.cells #[.func (.func 44) #[] #[.pointer (some ⟨w.heap.size + 1 + 1 + 1, 0, none⟩), .pointer (some ⟨w.heap.size + 1 + 1 + 1 + 1, 0, none⟩)]] 71) = W1 := ⟨_, rfl⟩
  have n1 : Nb w W1 := by rw [← hW]; exact (((((Nb.refl w).alloc _).alloc _).alloc _).alloc _).alloc _
  have bV : W1.heap[w.heap.size]? = some (.cells #[.int .i64 v.kind, .int .i64 v.n, .slice A L cap] 24 (0, 0)) := by rw [← hW]; exact old_blk (old_blk (old_blk (old_blk (new_blk _ _ rfl) _) _) _) _
  have bS : W1.heap[w.heap.size + 1]? = some (.cells #[.int .i64 0, .int .i64 0] 57 (0, 0)) := by rw [← hW]; exact old_blk (old_blk (old_blk (new_blk _ _ (by simp)) _) _) _
  have bM : W1.heap[w.heap.size + 1 + 1]? = some (.map #[] 0) := by rw [← hW]; exact old_blk (old_blk (new_blk _ _ (by simp)) _) _
  have bK : W1.heap[w.heap.size + 1 + 1 + 1]? = some (.cells #[.map (some (w.heap.size + 1 + 1))] 70 (0, 0)) := by rw [← hW]; exact old_blk (new_blk _ _ (by simp)) _
  have bF : W1.heap[w.heap.size + 1 + 1 + 1 + 1]? = some (.cells #[.func (.func 44) #[] #[.pointer (some ⟨w.heap.size + 1 + 1 + 1, 0, none⟩), .pointer (some ⟨w.heap.size + 1 + 1 + 1 + 1, 0, none⟩)]] 71 (0, 0)) := by rw [← hW]; exact new_blk _ _ (by simp)
  have ms : MsAt W0 (w.heap.size + 1 + 1) (w.heap.size + 1 + 1 + 1) (w.heap.size + 1 + 1 + 1 + 1) W1 := ⟨hw.trans n1, bK, bF, _, _, bM, fun e he => by simp at he⟩
  rw [hW]
  clear hW bM bK
  have hsz := hw.size
  obtain ⟨F, hF⟩ : ∃ F, w.heap.size + 1 + 1 + 1 + 1 = F := ⟨_, rfl⟩
  obtain ⟨K, hK⟩ : ∃ K, w.heap.size + 1 + 1 + 1 = K := ⟨_, rfl⟩
  obtain ⟨M, hM⟩ : ∃ M, w.heap.size + 1 + 1 = M := ⟨_, rfl⟩
  obtain ⟨S, hS⟩ : ∃ S, w.heap.size + 1 = S := ⟨_, rfl⟩
  obtain ⟨V, hV⟩ : ∃ V, w.heap.size = V := ⟨_, rfl⟩
  rw [hF, hK] at bF ⊢
  rw [hF, hK, hM] at ms
  rw [hM, hS]
  rw [hS] at bS
  rw [hV] at bV ⊢
  have hMw : w.heap.size ≤ M := by omega
  have hM0 : W0.heap.size ≤ M := by omega
  have hMS : S ≠ M := by omega
  have hSw : w.heap.size ≤ S := by omega
  clear hF hK hM hS hV hsz
  have hcall : Hid (Calls Try.prog 44 #[.agg #[.int .i64 v.kind, .int .i64 v.n, .slice A L cap], .int .i64 0, .pointer (some ⟨K, 0, none⟩), .pointer (some ⟨F, 0, none⟩)] W1 (fun r w' => r = .returned (.tuple #[.agg #[.int .i64 (s0 : Int), .int .i64 (s1 : Int)], .bool v.good]) ∧ Gb M W1 w')) := Lib.hid (by
    rw [← hcs.out]
    refine (measure_any W0 M K F hM0 v hv hz 0 (by omega) W1 ms).mono ?_
    rintro r w' ⟨h1, h2, h3⟩
    refine ⟨?_, h2⟩
    rw [h1, hgd.out, hs.out])
  have v0 := cell_of_row _ _ 0 _ _ _ bV
  have v1 := cell_of_row _ _ 1 _ _ _ bV
  have v2 := cell_of_row _ _ 2 _ _ _ bV
  have qf := cell_of_row _ _ 0 _ _ _ bF
  go_wp2_with (go_at_call 44; refine (hcall.out).mono ?_; rintro r w9 ⟨rfl, g9⟩; have b9 := g9.block bS hMS; have c0 := cell_of_row _ _ 0 _ _ _ b9; have c1 := cell_of_row _ _ 1 _ _ _ b9; have f0 := frozen_blk b9 0; have f1 := frozen_blk b9 1)
  refine bodyPost_ret (results_rt rfl _ _ S _ rfl (run_loadVar_row _ _ _ _ _ _ _ (set2_all b9) Try.underlying57 rfl (by kernel_rfl))) rfl ?_
  have nbw : Nb w w9 := g9.nb n1 hMw
  exact ⟨by rw [hs.out]; rfl, (nbw.setCell (p := ⟨S, 0, none⟩) hSw _).setCell (p := ⟨S, 1, none⟩) hSw _⟩
theorem good_any (W0 : World) (v : Vl) (hv : v.Has W0) (hz : v.Fre W0) (w : World) (hw : Nb W0 w) :
    Calls Try.prog 22 #[.agg v.cells.toArray] w fun r w' => r = .returned (.bool v.good) ∧ Nb w w' := by
  obtain ⟨A, cap, hav, hcap, hlen, hA⟩ := hv.vls.head
  have hcs : v.cells.toArray = #[.int .i64 v.kind, .int .i64 v.n, .slice A v.args.length cap] := by rw [← hav]; rfl
  obtain ⟨s0, s1, hs⟩ : ∃ s0 s1 : Nat, szV v v.good = .agg #[.int .i64 (s0 : Int), .int .i64 (s1 : Int)] := by
    cases v.good with
    | true => exact ⟨_, _, rfl⟩
    | false => exact ⟨0, 0, rfl⟩
  have hm := fun W (h : Nb W0 W) => measured_any W0 v hv hz W h
  rw [hcs, hs] at hm
  rw [hcs]
  replace hm := Lib.hid hm
  clear hcs hs hav
  go_enter Try.func22, Try.ntmps22
  go_wp2_with (go_at_call 36; refine (hm.out _ (hw.alloc _)).mono ?_; rintro r w2 ⟨rfl, n2⟩)
  go_ret
  exact ⟨rfl, ((alloc_nb' _ _).trans n2).alloc _⟩
end Go.Proofs.Ytmoggaecnjcjfaa
