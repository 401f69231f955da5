/-
  Proved here: fenced of the code: whether a fence between two operations speaks of both. Conditions: the pointers point at operations.
-/
import Derived.Test.YticifolljhplmaaYe
namespace Go.Proofs.Yticifolljhplmaa
open Go.RowKit
set_option linter.unusedVariables false
set_option linter.unusedSimpArgs false
set_option maxRecDepth 100000
set_option maxHeartbeats 4000000
theorem OpsR.cases {w : World} {v : Value} {l : List OpD} (h : OpsR w v l) : ∃ (p : Option Addr) (c : Nat), v = .slice p l.length c ∧ ∀ i : Nat, i < l.length → ∃ (b o : Nat) (m : OpD), p = some ⟨b, o, none⟩ ∧ l[i]? = some m ∧ OpAt w b (o + i * 17) m ∧ l.length ≤ c := by
  rcases h with ⟨⟨p, c, rfl⟩, rfl⟩ | ⟨b, o, c, rfl, hb, hc, hx⟩
  · exact ⟨p, c, rfl, fun i hi => by simp at hi⟩
  · exact ⟨_, _, rfl, fun i hi => ⟨b, o, l[i], rfl, by simp [hi], hx i _ (by simp [hi]), hc⟩⟩
def fenceB (a b m : OpD) : Bool := m.fence && (bits .and .i64 m.pred (doesS a) != 0) && (bits .and .i64 m.succ (doesS b) != 0)
theorem does_q (b o : Nat) (d : OpD) (w : World) (h : OpAt w b o d) : Calls Try.prog 62 #[.pointer (some ⟨b, o, none⟩)] w fun e w' => e = .returned (.int .i64 (doesS d)) ∧ w' = w := (does_any b o d w h).mono fun _ _ ⟨h1, h2⟩ => ⟨h1, h2.symm⟩
theorem fenced_any (ab ao bb bo : Nat) (v : Value) (a b : OpD) (l : List OpD) (w : World) (ha : OpAt w ab ao a) (hb : OpAt w bb bo b) (hl : OpsR w v l) (hn : l.length ≤ 4611686018427387904) :
    Calls Try.prog 54 #[pairV ab ao bb bo v] w fun e w' => e = .returned (.bool (l.any (fenceB a b))) ∧ Nb w w' := by
  obtain ⟨p, c, rfl, hX⟩ := hl.cases
  obtain ⟨W0, hW⟩ : ∃ W0, w.alloc (.cells #[.pointer (some ⟨ab, ao, none⟩), .pointer (some ⟨bb, bo, none⟩), .slice p l.length c] 67) = W0 := ⟨_, rfl⟩
  have n0 : Nb w W0 := by rw [← hW]; exact (Nb.refl w).alloc _
  have b0 : W0.heap[w.heap.size]? = some (.cells #[.pointer (some ⟨ab, ao, none⟩), .pointer (some ⟨bb, bo, none⟩), .slice p l.length c] 67 (0, 0)) := by rw [← hW]; exact new_blk w _ rfl
  have hX' := Lib.hid hX
  have hA := Lib.hid (ha.nb n0)
  have hB := Lib.hid (hb.nb n0)
  obtain ⟨q0, q1, q2⟩ : W0.cell? ⟨w.heap.size, 0, none⟩ = some (.pointer (some ⟨ab, ao, none⟩)) ∧ W0.cell? ⟨w.heap.size, 1, none⟩ = some (.pointer (some ⟨bb, bo, none⟩)) ∧ W0.cell? ⟨w.heap.size, 2, none⟩ = some (.slice p l.length c) := ⟨cell_of_row _ _ 0 _ _ _ b0, cell_of_row _ _ 1 _ _ _ b0, cell_of_row _ _ 2 _ _ _ b0⟩
  obtain ⟨n, hn'⟩ : ∃ n, l.length = n := ⟨_, rfl⟩
  rw [hn'] at hn hW b0 q2
  unfold pairV
  rw [hn']
  replace hn' := Lib.hid hn'
  clear ha hb hl hX
  go_enter Try.func54, Try.ntmps54
  go_upto_region 1 with (fail)

  clear hW
  go_wp2_with fail
  go_loopw [8] (fun i wr => ∃ k : Nat, k ≤ n ∧ i = .int .i64 k ∧ Hid ((l.take k).any (fenceB a b) = false) ∧ Nb W0 wr) (fun i _ => n - (intOf i).toNat)
  case atStart => exact ⟨0, Nat.zero_le _, rfl, Lib.hid (by simp), Nb.refl _⟩
  case round =>
    obtain ⟨k, hk, rfl, hG, hN⟩ := hrel
    clear q0 q1 q2
    have b1 := hN.block b0
    obtain ⟨q0, q1, q2⟩ : wr.cell? ⟨w.heap.size, 0, none⟩ = some (.pointer (some ⟨ab, ao, none⟩)) ∧ wr.cell? ⟨w.heap.size, 1, none⟩ = some (.pointer (some ⟨bb, bo, none⟩)) ∧ wr.cell? ⟨w.heap.size, 2, none⟩ = some (.slice p n c) := ⟨cell_of_row _ _ 0 _ _ _ b1, cell_of_row _ _ 1 _ _ _ b1, cell_of_row _ _ 2 _ _ _ b1⟩
    by_cases hlt : k < n
    · obtain ⟨eb, eo, m, rfl, hm, hO, hcap⟩ := hX'.out k (by rw [hn'.out]; exact hlt)
      have hm' := Lib.hid hm
      clear hm
      have hcap' : k < c := by have := hn'.out; omega
      have hO' := hO.nb (n0.trans hN)
      obtain ⟨-, -, -, -, o3, -, -, -, -, o8, o9, -⟩ := hO'
      have hQA : ∀ A : Addr, A = ⟨ab, ao, none⟩ → ∀ q, Calls Try.prog 62 #[.pointer (some A)] (wr.drewN q) fun e w' => e = .returned (.int .i64 (doesS a)) ∧ w' = wr.drewN q := fun A e q => by
        subst e; exact does_q ab ao a (wr.drewN q) (hA.out.nb (hN.drewN q))
      have hQB : ∀ A : Addr, A = ⟨bb, bo, none⟩ → ∀ q, Calls Try.prog 62 #[.pointer (some A)] (wr.drewN q) fun e w' => e = .returned (.int .i64 (doesS b)) ∧ w' = wr.drewN q := fun A e q => by
        subst e; exact does_q bb bo b (wr.drewN q) (hB.out.nb (hN.drewN q))
      have hnx := Lib.hid (fun (h : fenceB a b m = false) => (show (l.take (k + 1)).any (fenceB a b) = false by
        rw [List.take_add_one, hm'.out]; simp only [Option.toList, List.any_append, hG.out, List.any_cons, h, List.any_nil, Bool.or_false]))
      have hys := Lib.hid (fun (h : fenceB a b m = true) => (show l.any (fenceB a b) = true by
        rw [List.any_eq_true]; exact ⟨m, List.mem_of_getElem? hm'.out, h⟩))
      have hv := Lib.hid (show fenceB a b m = (m.fence && (bits .and .i64 m.pred (doesS a) != 0) && (bits .and .i64 m.succ (doesS b) != 0)) from rfl)
      generalize m.fence = f at *
      generalize m.pred = pr at *
      generalize m.succ = su at *
      generalize doesS a = da at *
      generalize doesS b = db at *
      clear hO
      cases f with
      | false =>
        replace hv := Lib.hid (show fenceB a b m = false by rw [hv.out]; rfl)
        go_upto_region 5 with (fail)
        go_quiet (fail)
        go_wp2_with fail
        go_roundw
        case rel => exact ⟨k + 1, hlt, by simp, Lib.hid (hnx.out hv.out), hN.drewN nq⟩
        case measure => simp [intOf]; omega
      | true =>
        cases hp : (bits .and .i64 pr da != 0) with
        | false =>
          replace hv := Lib.hid (show fenceB a b m = false by rw [hv.out, hp]; rfl)
          go_upto_region 5 with (fail)
          go_quiet ((go_at_call 62; first | (refine Calls.quiet_of_same (hQA _ ?_ _); exact rfl) | (refine Calls.quiet_of_same (hQB _ ?_ _); exact rfl)))
          go_wp2_with fail
          go_roundw
          case rel => exact ⟨k + 1, hlt, by simp, Lib.hid (hnx.out hv.out), hN.drewN nq⟩
          case measure => simp [intOf]; omega
        | true =>
          cases hp2 : (bits .and .i64 su db != 0) with
          | false =>
            replace hv := Lib.hid (show fenceB a b m = false by rw [hv.out, hp, hp2]; rfl)
            go_upto_region 5 with (fail)
            go_quiet ((go_at_call 62; first | (refine Calls.quiet_of_same (hQA _ ?_ _); exact rfl) | (refine Calls.quiet_of_same (hQB _ ?_ _); exact rfl)))
            go_wp2_with fail
            go_roundw
            case rel => exact ⟨k + 1, hlt, by simp, Lib.hid (hnx.out hv.out), hN.drewN nq⟩
            case measure => simp [intOf]; omega
          | true =>
            replace hv := Lib.hid (show fenceB a b m = true by rw [hv.out, hp, hp2]; rfl)
            go_upto_region 5 with (fail)
            go_quiet ((go_at_call 62; first | (refine Calls.quiet_of_same (hQA _ ?_ _); exact rfl) | (refine Calls.quiet_of_same (hQB _ ?_ _); exact rfl)))
            go_wp2_with fail
            go_ret
            rw [hys.out hv.out]
            exact ⟨rfl, (n0.trans hN).drewN nq⟩
    · obtain rfl : k = n := by omega
      go_wp2_with fail
      go_ret
      have hno := hG.out
      rw [← hn'.out, List.take_length] at hno
      rw [hno]
      exact ⟨rfl, n0.trans hN⟩
end Go.Proofs.Yticifolljhplmaa
