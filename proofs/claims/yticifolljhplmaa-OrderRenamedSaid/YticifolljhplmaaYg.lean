/-
  Proved here: placed of the code: whether the address of something between two operations hangs on the first. Conditions: the pointers point at operations.
-/
import Derived.Test.YticifolljhplmaaYf
namespace Go.Proofs.Yticifolljhplmaa
open Go.RowKit Go.Sort
set_option linter.unusedVariables false
set_option linter.unusedSimpArgs false
set_option maxRecDepth 100000
set_option maxHeartbeats 4000000
theorem regrown_nb {P : Program} {f : FuncId} {args : Array Value} {w : World} {d : Nat} {os : Array Obj} {v : Value}
    (h : Calls P f args (grow (redrawn w d) os) fun e w' => e = .returned v ∧ Nb (grow (redrawn w d) os) w') : Calls P f args (grow (redrawn w d) os) fun e w'' => e = .returned v ∧ ∃ p : Regrown, w'' = grow (redrawn w p.d) p.os :=
  Calls.regrown_of (h.mono fun _ _ ⟨he, hn⟩ => ⟨he, hn⟩)
def placedB (a m : OpD) : Bool := !m.fence && hasI m.addrs a.id
theorem IntsR.len {w : World} {v : Value} {xs : List Int} (h : IntsR w v xs) : True := trivial
theorem placed_any (ab ao bb bo : Nat) (v : Value) (a b : OpD) (l : List OpD) (w : World) (ha : OpAt w ab ao a) (hb : OpAt w bb bo b) (hl : OpsR w v l) (hn : l.length ≤ 4611686018427387904) (hs : ∀ m ∈ l, m.addrs.length ≤ 4611686018427387904) :
    Calls Try.prog 57 #[pairV ab ao bb bo v] w fun e w' => e = .returned (.bool (l.any (placedB a))) ∧ Nb w w' := by
  obtain ⟨p, c, rfl, hX⟩ := hl.cases
  obtain ⟨W0, hW⟩ : ∃ W0, w.alloc (.cells #[.pointer (some ⟨ab, ao, none⟩), .pointer (some ⟨bb, bo, none⟩), .slice p l.length c] 67) = W0 := ⟨_, rfl⟩
  have n0 : Nb w W0 := by rw [← hW]; exact (Nb.refl w).alloc _
  have b0 : W0.heap[w.heap.size]? = some (.cells #[.pointer (some ⟨ab, ao, none⟩), .pointer (some ⟨bb, bo, none⟩), .slice p l.length c] 67 (0, 0)) := by rw [← hW]; exact new_blk w _ rfl
  have hX' := Lib.hid hX
  have hA := Lib.hid (ha.nb n0)
  obtain ⟨q0, q1, q2⟩ : W0.cell? ⟨w.heap.size, 0, none⟩ = some (.pointer (some ⟨ab, ao, none⟩)) ∧ W0.cell? ⟨w.heap.size, 1, none⟩ = some (.pointer (some ⟨bb, bo, none⟩)) ∧ W0.cell? ⟨w.heap.size, 2, none⟩ = some (.slice p l.length c) := ⟨cell_of_row _ _ 0 _ _ _ b0, cell_of_row _ _ 1 _ _ _ b0, cell_of_row _ _ 2 _ _ _ b0⟩
  obtain ⟨n, hn'⟩ : ∃ n, l.length = n := ⟨_, rfl⟩
  rw [hn'] at hn hW b0 q2
  unfold pairV
  rw [hn']
  replace hn' := Lib.hid hn'
  have hs' := Lib.hid hs
  clear ha hb hl hX hs
  go_enter Try.func57, Try.ntmps57
  go_upto_region 1 with (fail)
  clear hW
  go_wp2_with fail
  go_loopw [8] (fun i wr => ∃ k : Nat, k ≤ n ∧ i = .int .i64 k ∧ Hid ((l.take k).any (placedB a) = false) ∧ Nb W0 wr) (fun i _ => n - (intOf i).toNat)
  case atStart => exact ⟨0, Nat.zero_le _, rfl, Lib.hid (by simp), Nb.refl _⟩
  case round =>
    obtain ⟨k, hk, rfl, hG, hN⟩ := hrel
    clear q0 q1 q2
    have b1 := hN.block b0
    obtain ⟨q0, q1, q2⟩ : wr.cell? ⟨w.heap.size, 0, none⟩ = some (.pointer (some ⟨ab, ao, none⟩)) ∧ wr.cell? ⟨w.heap.size, 1, none⟩ = some (.pointer (some ⟨bb, bo, none⟩)) ∧ wr.cell? ⟨w.heap.size, 2, none⟩ = some (.slice p n c) := ⟨cell_of_row _ _ 0 _ _ _ b1, cell_of_row _ _ 1 _ _ _ b1, cell_of_row _ _ 2 _ _ _ b1⟩
    by_cases hlt : k < n
    · obtain ⟨eb, eo, m, rfl, hm, hO, hcap⟩ := hX'.out k (by rw [hn'.out]; exact hlt)
      have hm' := Lib.hid hm
      have hms := hs'.out m (List.mem_of_getElem? hm)
      clear hm
      have hcap' : k < c := by have := hn'.out; omega
      have hO' := hO.nb (n0.trans hN)
      have hra := Lib.hid hO'.ra
      obtain ⟨-, -, -, -, o3, -, -, -, -, -, -, -, -, -, -, o14, -⟩ := hO'
      have hnx := Lib.hid (fun (h : placedB a m = false) => (show (l.take (k + 1)).any (placedB a) = false by
        rw [List.take_add_one, hm'.out]; simp only [Option.toList, List.any_append, hG.out, List.any_cons, h, List.any_nil, Bool.or_false]))
      have hys := Lib.hid (fun (h : placedB a m = true) => (show l.any (placedB a) = true by
        rw [List.any_eq_true]; exact ⟨m, List.mem_of_getElem? hm'.out, h⟩))
      have hv := Lib.hid (show placedB a m = (!m.fence && hasI m.addrs a.id) from rfl)
      have hOA := Lib.hid (fun (d : Nat) (os : Array Obj) => onA_any ab ao bb bo (.slice (some ⟨eb, eo, none⟩) n c) a m.av m.addrs (grow (redrawn wr d) os) (hA.out.nb (hN.trans (below_regrown wr d os))) (hra.out.nb (below_regrown wr d os)) hms rfl)
      unfold pairV at hOA
      generalize m.fence = f at *
      generalize m.av = av at *
      generalize hasI m.addrs a.id = r at *
      clear hO hra
      cases f with
      | true =>
        replace hv := Lib.hid (show placedB a m = false by rw [hv.out]; rfl)
        go_upto_region 5 with (fail)
        go_quiet (fail)
        go_wp2_with fail
        go_roundw
        case rel => exact ⟨k + 1, hlt, by simp, Lib.hid (hnx.out hv.out), hN.drewN nq⟩
        case measure => simp [intOf]; omega
      | false =>
        go_upto_region 5 with (fail)
        have d3 := cell_regrown o3
        have d14 := cell_regrown o14
        have d0 := cell_regrown q0
        have d1 := cell_regrown q1
        have d2 := cell_regrown q2
        refine wp_region_quiet_below (by kernel_rfl) (by kernel_rfl) ?_
        repeat (quiet_step ((go_at_call 55; exact regrown_nb (hOA.out _ _))))
        refine wpQuiet_nil ?_
        intro x4 hw'
        obtain ⟨⟨dq, osq⟩, hw''⟩ := hw'
        have hg : Nb wr (grow (redrawn wr dq) osq) := below_regrown wr dq osq
        rw [← hw''] at hg
        clear hw'' d3 d14 d0 d1 d2 hOA
        cases r with
        | false =>
          replace hv := Lib.hid (show placedB a m = false by rw [hv.out]; rfl)
          go_wp2_with fail
          go_roundw
          case rel => exact ⟨k + 1, hlt, by simp, Lib.hid (hnx.out hv.out), hN.trans hg⟩
          case measure => simp [intOf]; omega
        | true =>
          replace hv := Lib.hid (show placedB a m = true by rw [hv.out]; rfl)
          go_wp2_with fail
          go_ret
          rw [hys.out hv.out]
          exact ⟨rfl, n0.trans (hN.trans hg)⟩
    · obtain rfl : k = n := by omega
      go_wp2_with fail
      go_ret
      have hno := hG.out
      rw [← hn'.out, List.take_length] at hno
      rw [hno]
      exact ⟨rfl, n0.trans hN⟩
end Go.Proofs.Yticifolljhplmaa
