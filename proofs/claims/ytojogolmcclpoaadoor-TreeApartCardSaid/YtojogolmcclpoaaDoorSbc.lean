/-
  Proved here: of the code: laying a body. Conditions: stated.
-/
import Derived.Test.YtojogolmcclpoaaDoorSbb
namespace Go.Proofs.YtojogolmcclpoaaDoor
open Go.RowKit Go.Shelf
set_option linter.unusedVariables false
set_option linter.unusedSimpArgs false
set_option maxRecDepth 100000
set_option maxHeartbeats 4000000
attribute [-go_sem] run_eql_struct
theorem wrecv_f (W0 : World) (hT0 : Tw W0) (e : Bd) (he : e.Has W0) (hlate : e.late = false) (hA : ∀ m ∈ e.arms, ∀ t W, Nb W0 W → Wr W0 t W → (t ++ txA m).length ≤ 140737488355328 → Calls Tryd.prog 80 #[.pointer (some ⟨W0.heap.size, 0, none⟩), .agg m.cells.toArray] W (Lays W0 t (txA m) W))
    (hB : ∀ x ∈ e.parts, CB W0 x) (hokA : ∀ m ∈ e.arms, m.cells.toArray.all (·.oneCell') = true) (hokB : ∀ x ∈ e.parts, x.cells.toArray.all (·.oneCell') = true) (t : Bs) (W : World) (hW : Nb W0 W) (hT : Wr W0 t W) (hlen : (t ++ rcT e.late e.after (txBs e.parts) (txAs e.arms)).length ≤ 140737488355328) :
    Calls Tryd.prog 77 #[.pointer (some ⟨W0.heap.size, 0, none⟩), .agg e.cells.toArray] W (Lays W0 t (rcT e.late e.after (txBs e.parts) (txAs e.arms)) W) := by
  have hlt := hT.lt
  have hnum : -9223372036854775808 ≤ e.after ∧ e.after < 9223372036854775808 := by cases he with | mk srow skids args prow pkids mrow mpat mguard mbody ac af => exact af
  have hrow : RowS W0 15 e.mv (e.arms.map Am.cells) := by cases he with | mk srow skids args prow pkids mrow mpat mguard mbody ac af => exact mrow
  have hrowB : RowS W0 9 e.pv (e.parts.map Bd.cells) := by cases he with | mk srow skids args prow pkids mrow mpat mguard mbody ac af => exact prow
  obtain ⟨A0, cap0, hv0, hcap, hlq, -⟩ := hrow.head
  rw [List.length_map] at hv0 hlq
  have hc : e.cells = [e.sv, .int .i64 e.kind, .int .i64 e.at_, sV e.actor, e.av, e.pv, .slice A0 e.arms.length cap0, .bool false, .int .i64 e.after] := by
    rw [← hv0, ← hlate]; rfl
  rw [hv0] at hrow
  obtain ⟨X, hX2⟩ : ∃ X, rcT e.late e.after (txBs e.parts) (txAs e.arms) = X := ⟨_, rfl⟩
  have hX := hX2.symm
  rw [hX2] at hlen ⊢
  clear hX2
  rw [hlate, txAs_map] at hX
  simp only [rcT, if_true, if_false, Bool.false_eq_true] at hX
  rw [hX] at hlen
  rw [hc]
  clear hc
  replace hX := Lib.hid hX
  replace hlen := Lib.hid hlen
  have hAh := Lib.hid hA
  have hlb := Lib.hid (fun t W hW hT hlen => listB_any W0 e.parts hokB hB e.pv hrowB t W hW hT hlen)
  clear hA
  go_enter Tryd.func77, Tryd.ntmps77
  go_upto_region 1 with (fail)
  obtain ⟨W1, hW1⟩ : ∃ W1, W.alloc (.cells #[e.sv, .int .i64 e.kind, .int .i64 e.at_, sV e.actor, e.av, e.pv, .slice A0 e.arms.length cap0, .bool false, .int .i64 e.after] 44) = W1 := ⟨_, rfl⟩
  have b1 : W1.heap[W.heap.size]? = some (.cells #[e.sv, .int .i64 e.kind, .int .i64 e.at_, sV e.actor, e.av, e.pv, .slice A0 e.arms.length cap0, .bool false, .int .i64 e.after] 44 (0, 0)) := by rw [← hW1]; exact new_blk _ _ rfl
  have n1 : Nb W W1 := by rw [← hW1]; exact alloc_nb _ _
  rw [hW1]
  have hT1 := hT.nb n1
  have hA1 := hW.trans n1
  have q1 : Pk W0 W W1 := Pk.of_nb (Nat.le_of_lt hlt) n1
  clear hW1 n1
  have y0 := cell_of_row _ _ 0 _ _ _ b1
  have y1 := cell_of_row _ _ 1 _ _ _ b1
  have y2 := cell_of_row _ _ 2 _ _ _ b1
  have y3 := cell_of_row _ _ 3 _ _ _ b1
  have y4 := cell_of_row _ _ 4 _ _ _ b1
  have y5 := cell_of_row _ _ 5 _ _ _ b1
  have y6 := cell_of_row _ _ 6 _ _ _ b1
  have y7 := cell_of_row _ _ 7 _ _ _ b1
  have y8 := cell_of_row _ _ 8 _ _ _ b1
  go_wp2_with fail
  refine (put_any W0 t [[114, 101, 99, 101, 105, 118, 101, 32, 123]] _ (hT1.nb (alloc_nb _ _)) _ (new_blk _ _ rfl) (by have := hT1.lt; omega) 1 (Nat.le_refl _) (by simp) (by have h := hlen.out; simp only [List.flatten_cons, List.flatten_nil, List.append_nil, List.length_append] at h ⊢; omega)).mono ?_
  rintro r W2 ⟨rfl, hT2, p2⟩
  have hA2 := Pk.nb (hA1.trans (alloc_nb _ _)) p2
  have b2 := p2.block (old_blk b1 _) (by omega) (by decide)
  have q2 : Pk W0 W W2 := q1.trans ((Pk.of_nb (Nat.le_of_lt hT1.lt) (alloc_nb _ _)).trans p2)
  have y0 := cell_of_row _ _ 0 _ _ _ b2
  have y1 := cell_of_row _ _ 1 _ _ _ b2
  have y2 := cell_of_row _ _ 2 _ _ _ b2
  have y3 := cell_of_row _ _ 3 _ _ _ b2
  have y4 := cell_of_row _ _ 4 _ _ _ b2
  have y5 := cell_of_row _ _ 5 _ _ _ b2
  have y6 := cell_of_row _ _ 6 _ _ _ b2
  have y7 := cell_of_row _ _ 7 _ _ _ b2
  have y8 := cell_of_row _ _ 8 _ _ _ b2
  go_wp2_with fail
  obtain ⟨M, hM⟩ : ∃ M, e.arms.length = M := ⟨_, rfl⟩
  have hMh := Lib.hid hM
  rw [hM] at hlq ⊢
  clear hM
  have hpre := Lib.hid hlen.out
  go_loopw [12] (fun si wr => ∃ i : Nat, i ≤ M ∧ si = .int .i64 i ∧ Wr W0 ((t ++ [[114, 101, 99, 101, 105, 118, 101, 32, 123]].flatten) ++ ((e.arms.take i).map (fun m => [32] ++ txA m)).flatten) wr ∧ Pk W0 W2 wr) (fun si _ => M - (intOf si).toNat)
  case atStart => exact ⟨0, Nat.zero_le _, rfl, by simpa using hT2, Pk.refl _ _⟩
  case round =>
    obtain ⟨i, hi2, rfl, hj, hp⟩ := hrel
    have hnb : Nb W0 wr := Pk.nb hA2 hp
    by_cases hlt2 : i < M
    · have hlt3 : (i : Int) < (M : Int) := by omega
      obtain ⟨x, hx⟩ : ∃ x, e.arms[i]? = some x := ⟨_, List.getElem?_eq_getElem (by rw [hMh.out]; exact hlt2)⟩
      obtain ⟨b, o, hbo, hxc⟩ := RowS.at_ hrow (i := i) (r := x.cells) (by rw [List.getElem?_map, hx]; rfl)
      obtain rfl := hbo
      have x0 := hnb.cell (hxc 0 _ rfl)
      have x1 := hnb.cell (hxc 1 _ rfl)
      have x2 := hnb.cell (hxc 2 _ rfl)
      have x3 := hnb.cell (hxc 3 _ rfl)
      have x4 := hnb.cell (hxc 4 _ rfl)
      have x5 := hnb.cell (hxc 5 _ rfl)
      have x6 := hnb.cell (hxc 6 _ rfl)
      have x7 := hnb.cell (hxc 7 _ rfl)
      have x8 := hnb.cell (hxc 8 _ rfl)
      have x9 := hnb.cell (hxc 9 _ rfl)
      have x10 := hnb.cell (hxc 10 _ rfl)
      have x11 := hnb.cell (hxc 11 _ rfl)
      have x12 := hnb.cell (hxc 12 _ rfl)
      have x13 := hnb.cell (hxc 13 _ rfl)
      have x14 := hnb.cell (hxc 14 _ rfl)
      rw [Nat.add_zero] at x0
      have htk := flat_take (fun m => [32] ++ txA m) e.arms i x hx
      have hle : ((t ++ [[114, 101, 99, 101, 105, 118, 101, 32, 123]].flatten) ++ (((e.arms.take i).map (fun m => [32] ++ txA m)).flatten ++ ((fun m => [32] ++ txA m) x))).length ≤ 140737488355328 := by
        have h1 := hlen.out
        have h2 := flat_le (fun m => [32] ++ txA m) e.arms (i + 1)
        rw [htk] at h2
        simp only [List.flatten_cons, List.flatten_nil, List.append_nil, List.length_append] at h1 h2 ⊢
        omega
      have hmem := List.mem_of_getElem? hx
      have hnbh := Lib.hid hnb
      have hlt4 : W0.heap.size < wr.heap.size := hj.lt
      have hox := Lib.hid (hokA x hmem)
      have hone1 := Lib.hid (hAh.out x hmem)
      have hjh := Lib.hid hj
      replace htk := Lib.hid htk
      replace hle := Lib.hid hle
      clear hx hxc hj
      obtain ⟨T, hTT⟩ : ∃ T, (t ++ [[114, 101, 99, 101, 105, 118, 101, 32, 123]].flatten) ++ ((e.arms.take i).map (fun m => [32] ++ txA m)).flatten = T := ⟨_, rfl⟩
      have hTh := Lib.hid hTT
      rw [hTT] at hjh
      have hle2 := Lib.hid (show (T ++ ((fun m => [32] ++ txA m) x)).length ≤ 140737488355328 by rw [← hTT, List.append_assoc]; exact hle.out)
      clear hTT
      go_wp2_with (first
        | (refine wpList_store_new' rfl 78 (.tmp 5) (.tmp 15) rfl _ x.cells.toArray _ rfl rfl (show (Tryd.prog.info? 78).map (·.size) = some 15 by kernel_rfl) rfl hox.out ?_; obtain ⟨W5, hW5⟩ : ∃ W5, wr.alloc (.cells x.cells.toArray 78) = W5 := ⟨_, rfl⟩; have b5 : W5.heap[wr.heap.size]? = some (.cells x.cells.toArray 78 (0, 0)) := (by rw [← hW5]; exact new_blk _ _ rfl); have n5 : Nb wr W5 := (by rw [← hW5]; exact alloc_nb _ _); have z5 := n5.size; rw [hW5]; clear hW5)
        | (refine wpList_load_row rfl 78 (.tmp 5) rfl wr.heap.size rfl 78 x.cells.toArray (0, 0) _ b7 Tryd.underlying78 rfl (show (Tryd.prog.info? 78).map (·.size) = some 15 by kernel_rfl) ?_)
        | (go_at_call 54; refine (put_any W0 T [[32]] _ (hjh.out.nb (n5.trans (alloc_nb _ _))) _ (new_blk _ _ rfl) (by omega) 1 (Nat.le_refl _) (by simp) (by have := hle2.out; simp only [List.flatten_cons, List.flatten_nil, List.append_nil, List.length_append] at this ⊢; omega)).mono ?_; rintro r w7 ⟨rfl, hj7, hp7⟩; have b7 := hp7.block (old_blk b5 _) (by omega) (by decide); have hnb7 := Pk.nb (hnbh.out.trans (n5.trans (alloc_nb _ _))) hp7)
        | (go_at_call 80; refine (hone1.out _ _ hnb7 hj7 (by have := hle2.out; simp only [List.flatten_cons, List.flatten_nil, List.append_nil, List.length_append] at this ⊢; omega)).mono ?_; rintro r w6 ⟨rfl, hj6, hp6⟩))
      exact ⟨⟨i + 1, by omega, by simp, by rw [htk.out, ← List.append_assoc, hTh.out]; simpa only [List.flatten_cons, List.flatten_nil, List.append_nil, List.append_assoc] using hj6, hp.trans ((Pk.of_nb (Nat.le_of_lt hlt4) (n5.trans (alloc_nb _ _))).trans (hp7.trans hp6))⟩, by simp [intOf] <;> omega⟩
    · obtain rfl : i = M := by omega
      have hall : ((e.arms.take i).map (fun m => [32] ++ txA m)).flatten = (e.arms.map (fun m => [32] ++ txA m)).flatten := by rw [← hMh.out, List.take_length]
      rw [hall] at hj
      clear hMh hpre
      have bq := hp.block b2 (by omega) (by decide)
      have qq : Pk W0 W wr := q2.trans hp
      have y0 := cell_of_row _ _ 0 _ _ _ bq
      have y1 := cell_of_row _ _ 1 _ _ _ bq
      have y2 := cell_of_row _ _ 2 _ _ _ bq
      have y3 := cell_of_row _ _ 3 _ _ _ bq
      have y4 := cell_of_row _ _ 4 _ _ _ bq
      have y5 := cell_of_row _ _ 5 _ _ _ bq
      have y6 := cell_of_row _ _ 6 _ _ _ bq
      have y7 := cell_of_row _ _ 7 _ _ _ bq
      have y8 := cell_of_row _ _ 8 _ _ _ bq
      go_wp2_with fail
      refine (put_any W0 ((t ++ [[114, 101, 99, 101, 105, 118, 101, 32, 123]].flatten) ++ (e.arms.map (fun m => [32] ++ txA m)).flatten) [[32, 125]] _ (hj.nb (alloc_nb _ _)) _ (new_blk _ _ rfl) (by have := hj.lt; omega) 1 (Nat.le_refl _) (by simp) (by have h := hlen.out; simp only [List.flatten_cons, List.flatten_nil, List.append_nil, List.length_append] at h ⊢; omega)).mono ?_
      rintro r W3 ⟨rfl, hT3, p3⟩
      have hA3 := Pk.nb (hnb.trans (alloc_nb _ _)) p3
      have b3 := p3.block (old_blk bq _) (by omega) (by decide)
      have q3 : Pk W0 W W3 := qq.trans ((Pk.of_nb (Nat.le_of_lt hj.lt) (alloc_nb _ _)).trans p3)
      go_wp2_with fail
      go_end0
      refine ⟨rfl, ?_, q3⟩
      rw [hX.out]
      simpa only [List.flatten_cons, List.flatten_nil, List.append_nil, List.nil_append, List.append_assoc] using hT3
theorem wrecv_t (W0 : World) (hT0 : Tw W0) (e : Bd) (he : e.Has W0) (hlate : e.late = true) (hA : ∀ m ∈ e.arms, ∀ t W, Nb W0 W → Wr W0 t W → (t ++ txA m).length ≤ 140737488355328 → Calls Tryd.prog 80 #[.pointer (some ⟨W0.heap.size, 0, none⟩), .agg m.cells.toArray] W (Lays W0 t (txA m) W))
    (hB : ∀ x ∈ e.parts, CB W0 x) (hokA : ∀ m ∈ e.arms, m.cells.toArray.all (·.oneCell') = true) (hokB : ∀ x ∈ e.parts, x.cells.toArray.all (·.oneCell') = true) (t : Bs) (W : World) (hW : Nb W0 W) (hT : Wr W0 t W) (hlen : (t ++ rcT e.late e.after (txBs e.parts) (txAs e.arms)).length ≤ 140737488355328) :
    Calls Tryd.prog 77 #[.pointer (some ⟨W0.heap.size, 0, none⟩), .agg e.cells.toArray] W (Lays W0 t (rcT e.late e.after (txBs e.parts) (txAs e.arms)) W) := by
  have hlt := hT.lt
  have hnum : -9223372036854775808 ≤ e.after ∧ e.after < 9223372036854775808 := by cases he with | mk srow skids args prow pkids mrow mpat mguard mbody ac af => exact af
  have hrow : RowS W0 15 e.mv (e.arms.map Am.cells) := by cases he with | mk srow skids args prow pkids mrow mpat mguard mbody ac af => exact mrow
  have hrowB : RowS W0 9 e.pv (e.parts.map Bd.cells) := by cases he with | mk srow skids args prow pkids mrow mpat mguard mbody ac af => exact prow
  obtain ⟨A0, cap0, hv0, hcap, hlq, -⟩ := hrow.head
  rw [List.length_map] at hv0 hlq
  have hc : e.cells = [e.sv, .int .i64 e.kind, .int .i64 e.at_, sV e.actor, e.av, e.pv, .slice A0 e.arms.length cap0, .bool true, .int .i64 e.after] := by
    rw [← hv0, ← hlate]; rfl
  rw [hv0] at hrow
  obtain ⟨X, hX2⟩ : ∃ X, rcT e.late e.after (txBs e.parts) (txAs e.arms) = X := ⟨_, rfl⟩
  have hX := hX2.symm
  rw [hX2] at hlen ⊢
  clear hX2
  rw [hlate, txAs_map] at hX
  simp only [rcT, if_true, if_false, Bool.false_eq_true] at hX
  rw [hX] at hlen
  rw [hc]
  clear hc
  replace hX := Lib.hid hX
  replace hlen := Lib.hid hlen
  have hAh := Lib.hid hA
  have hlb := Lib.hid (fun t W hW hT hlen => listB_any W0 e.parts hokB hB e.pv hrowB t W hW hT hlen)
  clear hA
  go_enter Tryd.func77, Tryd.ntmps77
  go_upto_region 1 with (fail)
  obtain ⟨W1, hW1⟩ : ∃ W1, W.alloc (.cells #[e.sv, .int .i64 e.kind, .int .i64 e.at_, sV e.actor, e.av, e.pv, .slice A0 e.arms.length cap0, .bool true, .int .i64 e.after] 44) = W1 := ⟨_, rfl⟩
  have b1 : W1.heap[W.heap.size]? = some (.cells #[e.sv, .int .i64 e.kind, .int .i64 e.at_, sV e.actor, e.av, e.pv, .slice A0 e.arms.length cap0, .bool true, .int .i64 e.after] 44 (0, 0)) := by rw [← hW1]; exact new_blk _ _ rfl
  have n1 : Nb W W1 := by rw [← hW1]; exact alloc_nb _ _
  rw [hW1]
  have hT1 := hT.nb n1
  have hA1 := hW.trans n1
  have q1 : Pk W0 W W1 := Pk.of_nb (Nat.le_of_lt hlt) n1
  clear hW1 n1
  have y0 := cell_of_row _ _ 0 _ _ _ b1
  have y1 := cell_of_row _ _ 1 _ _ _ b1
  have y2 := cell_of_row _ _ 2 _ _ _ b1
  have y3 := cell_of_row _ _ 3 _ _ _ b1
  have y4 := cell_of_row _ _ 4 _ _ _ b1
  have y5 := cell_of_row _ _ 5 _ _ _ b1
  have y6 := cell_of_row _ _ 6 _ _ _ b1
  have y7 := cell_of_row _ _ 7 _ _ _ b1
  have y8 := cell_of_row _ _ 8 _ _ _ b1
  go_wp2_with fail
  refine (put_any W0 t [[114, 101, 99, 101, 105, 118, 101, 32, 123]] _ (hT1.nb (alloc_nb _ _)) _ (new_blk _ _ rfl) (by have := hT1.lt; omega) 1 (Nat.le_refl _) (by simp) (by have h := hlen.out; simp only [List.flatten_cons, List.flatten_nil, List.append_nil, List.length_append] at h ⊢; omega)).mono ?_
  rintro r W2 ⟨rfl, hT2, p2⟩
  have hA2 := Pk.nb (hA1.trans (alloc_nb _ _)) p2
  have b2 := p2.block (old_blk b1 _) (by omega) (by decide)
  have q2 : Pk W0 W W2 := q1.trans ((Pk.of_nb (Nat.le_of_lt hT1.lt) (alloc_nb _ _)).trans p2)
  have y0 := cell_of_row _ _ 0 _ _ _ b2
  have y1 := cell_of_row _ _ 1 _ _ _ b2
  have y2 := cell_of_row _ _ 2 _ _ _ b2
  have y3 := cell_of_row _ _ 3 _ _ _ b2
  have y4 := cell_of_row _ _ 4 _ _ _ b2
  have y5 := cell_of_row _ _ 5 _ _ _ b2
  have y6 := cell_of_row _ _ 6 _ _ _ b2
  have y7 := cell_of_row _ _ 7 _ _ _ b2
  have y8 := cell_of_row _ _ 8 _ _ _ b2
  go_wp2_with fail
  obtain ⟨M, hM⟩ : ∃ M, e.arms.length = M := ⟨_, rfl⟩
  have hMh := Lib.hid hM
  rw [hM] at hlq ⊢
  clear hM
  have hpre := Lib.hid hlen.out
  go_loopw [12] (fun si wr => ∃ i : Nat, i ≤ M ∧ si = .int .i64 i ∧ Wr W0 ((t ++ [[114, 101, 99, 101, 105, 118, 101, 32, 123]].flatten) ++ ((e.arms.take i).map (fun m => [32] ++ txA m)).flatten) wr ∧ Pk W0 W2 wr) (fun si _ => M - (intOf si).toNat)
  case atStart => exact ⟨0, Nat.zero_le _, rfl, by simpa using hT2, Pk.refl _ _⟩
  case round =>
    obtain ⟨i, hi2, rfl, hj, hp⟩ := hrel
    have hnb : Nb W0 wr := Pk.nb hA2 hp
    by_cases hlt2 : i < M
    · have hlt3 : (i : Int) < (M : Int) := by omega
      obtain ⟨x, hx⟩ : ∃ x, e.arms[i]? = some x := ⟨_, List.getElem?_eq_getElem (by rw [hMh.out]; exact hlt2)⟩
      obtain ⟨b, o, hbo, hxc⟩ := RowS.at_ hrow (i := i) (r := x.cells) (by rw [List.getElem?_map, hx]; rfl)
      obtain rfl := hbo
      have x0 := hnb.cell (hxc 0 _ rfl)
      have x1 := hnb.cell (hxc 1 _ rfl)
      have x2 := hnb.cell (hxc 2 _ rfl)
      have x3 := hnb.cell (hxc 3 _ rfl)
      have x4 := hnb.cell (hxc 4 _ rfl)
      have x5 := hnb.cell (hxc 5 _ rfl)
      have x6 := hnb.cell (hxc 6 _ rfl)
      have x7 := hnb.cell (hxc 7 _ rfl)
      have x8 := hnb.cell (hxc 8 _ rfl)
      have x9 := hnb.cell (hxc 9 _ rfl)
      have x10 := hnb.cell (hxc 10 _ rfl)
      have x11 := hnb.cell (hxc 11 _ rfl)
      have x12 := hnb.cell (hxc 12 _ rfl)
      have x13 := hnb.cell (hxc 13 _ rfl)
      have x14 := hnb.cell (hxc 14 _ rfl)
      rw [Nat.add_zero] at x0
      have htk := flat_take (fun m => [32] ++ txA m) e.arms i x hx
      have hle : ((t ++ [[114, 101, 99, 101, 105, 118, 101, 32, 123]].flatten) ++ (((e.arms.take i).map (fun m => [32] ++ txA m)).flatten ++ ((fun m => [32] ++ txA m) x))).length ≤ 140737488355328 := by
        have h1 := hlen.out
        have h2 := flat_le (fun m => [32] ++ txA m) e.arms (i + 1)
        rw [htk] at h2
        simp only [List.flatten_cons, List.flatten_nil, List.append_nil, List.length_append] at h1 h2 ⊢
        omega
      have hmem := List.mem_of_getElem? hx
      have hnbh := Lib.hid hnb
      have hlt4 : W0.heap.size < wr.heap.size := hj.lt
      have hox := Lib.hid (hokA x hmem)
      have hone1 := Lib.hid (hAh.out x hmem)
      have hjh := Lib.hid hj
      replace htk := Lib.hid htk
      replace hle := Lib.hid hle
      clear hx hxc hj
      obtain ⟨T, hTT⟩ : ∃ T, (t ++ [[114, 101, 99, 101, 105, 118, 101, 32, 123]].flatten) ++ ((e.arms.take i).map (fun m => [32] ++ txA m)).flatten = T := ⟨_, rfl⟩
      have hTh := Lib.hid hTT
      rw [hTT] at hjh
      have hle2 := Lib.hid (show (T ++ ((fun m => [32] ++ txA m) x)).length ≤ 140737488355328 by rw [← hTT, List.append_assoc]; exact hle.out)
      clear hTT
      go_wp2_with (first
        | (refine wpList_store_new' rfl 78 (.tmp 5) (.tmp 15) rfl _ x.cells.toArray _ rfl rfl (show (Tryd.prog.info? 78).map (·.size) = some 15 by kernel_rfl) rfl hox.out ?_; obtain ⟨W5, hW5⟩ : ∃ W5, wr.alloc (.cells x.cells.toArray 78) = W5 := ⟨_, rfl⟩; have b5 : W5.heap[wr.heap.size]? = some (.cells x.cells.toArray 78 (0, 0)) := (by rw [← hW5]; exact new_blk _ _ rfl); have n5 : Nb wr W5 := (by rw [← hW5]; exact alloc_nb _ _); have z5 := n5.size; rw [hW5]; clear hW5)
        | (refine wpList_load_row rfl 78 (.tmp 5) rfl wr.heap.size rfl 78 x.cells.toArray (0, 0) _ b7 Tryd.underlying78 rfl (show (Tryd.prog.info? 78).map (·.size) = some 15 by kernel_rfl) ?_)
        | (go_at_call 54; refine (put_any W0 T [[32]] _ (hjh.out.nb (n5.trans (alloc_nb _ _))) _ (new_blk _ _ rfl) (by omega) 1 (Nat.le_refl _) (by simp) (by have := hle2.out; simp only [List.flatten_cons, List.flatten_nil, List.append_nil, List.length_append] at this ⊢; omega)).mono ?_; rintro r w7 ⟨rfl, hj7, hp7⟩; have b7 := hp7.block (old_blk b5 _) (by omega) (by decide); have hnb7 := Pk.nb (hnbh.out.trans (n5.trans (alloc_nb _ _))) hp7)
        | (go_at_call 80; refine (hone1.out _ _ hnb7 hj7 (by have := hle2.out; simp only [List.flatten_cons, List.flatten_nil, List.append_nil, List.length_append] at this ⊢; omega)).mono ?_; rintro r w6 ⟨rfl, hj6, hp6⟩))
      exact ⟨⟨i + 1, by omega, by simp, by rw [htk.out, ← List.append_assoc, hTh.out]; simpa only [List.flatten_cons, List.flatten_nil, List.append_nil, List.append_assoc] using hj6, hp.trans ((Pk.of_nb (Nat.le_of_lt hlt4) (n5.trans (alloc_nb _ _))).trans (hp7.trans hp6))⟩, by simp [intOf] <;> omega⟩
    · obtain rfl : i = M := by omega
      have hall : ((e.arms.take i).map (fun m => [32] ++ txA m)).flatten = (e.arms.map (fun m => [32] ++ txA m)).flatten := by rw [← hMh.out, List.take_length]
      rw [hall] at hj
      clear hMh hpre
      have bq := hp.block b2 (by omega) (by decide)
      have qq : Pk W0 W wr := q2.trans hp
      have y0 := cell_of_row _ _ 0 _ _ _ bq
      have y1 := cell_of_row _ _ 1 _ _ _ bq
      have y2 := cell_of_row _ _ 2 _ _ _ bq
      have y3 := cell_of_row _ _ 3 _ _ _ bq
      have y4 := cell_of_row _ _ 4 _ _ _ bq
      have y5 := cell_of_row _ _ 5 _ _ _ bq
      have y6 := cell_of_row _ _ 6 _ _ _ bq
      have y7 := cell_of_row _ _ 7 _ _ _ bq
      have y8 := cell_of_row _ _ 8 _ _ _ bq
      go_wp2_with fail
      refine (itoa_T W0 hT0 hnum.1 hnum.2 _ hnb).mono ?_
      rintro r V3 ⟨rfl, m3⟩
      have hT3v := hj.nb m3
      have hA3v := hnb.trans m3
      have q3v : Pk W0 W V3 := qq.trans (Pk.of_nb (Nat.le_of_lt hj.lt) m3)
      have b3v := m3.block bq
      have lt3v := hT3v.lt
      go_wp2_with fail
      refine (put_any W0 ((t ++ [[114, 101, 99, 101, 105, 118, 101, 32, 123]].flatten) ++ (e.arms.map (fun m => [32] ++ txA m)).flatten) [[32, 97, 102, 116, 101, 114, 32], Lib.itoa e.after, [32]] _ (hT3v.nb (alloc_nb _ _)) _ (new_blk _ _ rfl) (by have := hT3v.lt; omega) 3 (Nat.le_refl _) (by simp) (by have h := hlen.out; simp only [List.flatten_cons, List.flatten_nil, List.append_nil, List.length_append] at h ⊢; omega)).mono ?_
      rintro r W3 ⟨rfl, hT3, p3⟩
      have hA3 := Pk.nb (hA3v.trans (alloc_nb _ _)) p3
      have b3 := p3.block (old_blk b3v _) (by omega) (by decide)
      have q3 : Pk W0 W W3 := q3v.trans ((Pk.of_nb (Nat.le_of_lt hT3v.lt) (alloc_nb _ _)).trans p3)
      have y0 := cell_of_row _ _ 0 _ _ _ b3
      have y1 := cell_of_row _ _ 1 _ _ _ b3
      have y2 := cell_of_row _ _ 2 _ _ _ b3
      have y3 := cell_of_row _ _ 3 _ _ _ b3
      have y4 := cell_of_row _ _ 4 _ _ _ b3
      have y5 := cell_of_row _ _ 5 _ _ _ b3
      have y6 := cell_of_row _ _ 6 _ _ _ b3
      have y7 := cell_of_row _ _ 7 _ _ _ b3
      have y8 := cell_of_row _ _ 8 _ _ _ b3
      go_wp2_with fail
      refine (hlb.out (((t ++ [[114, 101, 99, 101, 105, 118, 101, 32, 123]].flatten) ++ (e.arms.map (fun m => [32] ++ txA m)).flatten) ++ [[32, 97, 102, 116, 101, 114, 32], Lib.itoa e.after, [32]].flatten) W3 hA3 hT3 (by have h := hlen.out; simp only [List.flatten_cons, List.flatten_nil, List.append_nil, List.length_append] at h ⊢; omega)).mono ?_
      rintro r W4 ⟨rfl, hT4, p4⟩
      have hA4 := Pk.nb hA3 p4
      have b4 := p4.block b3 (by omega) (by decide)
      have q4 : Pk W0 W W4 := q3.trans (p4)
      have y0 := cell_of_row _ _ 0 _ _ _ b4
      have y1 := cell_of_row _ _ 1 _ _ _ b4
      have y2 := cell_of_row _ _ 2 _ _ _ b4
      have y3 := cell_of_row _ _ 3 _ _ _ b4
      have y4 := cell_of_row _ _ 4 _ _ _ b4
      have y5 := cell_of_row _ _ 5 _ _ _ b4
      have y6 := cell_of_row _ _ 6 _ _ _ b4
      have y7 := cell_of_row _ _ 7 _ _ _ b4
      have y8 := cell_of_row _ _ 8 _ _ _ b4
      go_wp2_with fail
      refine (put_any W0 ((((t ++ [[114, 101, 99, 101, 105, 118, 101, 32, 123]].flatten) ++ (e.arms.map (fun m => [32] ++ txA m)).flatten) ++ [[32, 97, 102, 116, 101, 114, 32], Lib.itoa e.after, [32]].flatten) ++ jnT (txBs e.parts)) [[32, 125]] _ (hT4.nb (alloc_nb _ _)) _ (new_blk _ _ rfl) (by have := hT4.lt; omega) 1 (Nat.le_refl _) (by simp) (by have h := hlen.out; simp only [List.flatten_cons, List.flatten_nil, List.append_nil, List.length_append] at h ⊢; omega)).mono ?_
      rintro r W5 ⟨rfl, hT5, p5⟩
      have hA5 := Pk.nb (hA4.trans (alloc_nb _ _)) p5
      have b5 := p5.block (old_blk b4 _) (by omega) (by decide)
      have q5 : Pk W0 W W5 := q4.trans ((Pk.of_nb (Nat.le_of_lt hT4.lt) (alloc_nb _ _)).trans p5)
      go_wp2_with fail
      go_end0
      refine ⟨rfl, ?_, q5⟩
      rw [hX.out]
      simpa only [List.flatten_cons, List.flatten_nil, List.append_nil, List.nil_append, List.append_assoc] using hT5
theorem wend_any (W0 : World) (hT0 : Tw W0) (e : Bd) (he : e.Has W0) (hg : endS (hdB e) = true) (hgs : gEs e.args = true) (hA : ∀ m ∈ e.arms, ∀ t W, Nb W0 W → Wr W0 t W → (t ++ txA m).length ≤ 140737488355328 → Calls Tryd.prog 80 #[.pointer (some ⟨W0.heap.size, 0, none⟩), .agg m.cells.toArray] W (Lays W0 t (txA m) W))
    (hB : ∀ x ∈ e.parts, CB W0 x) (hokA : ∀ m ∈ e.arms, m.cells.toArray.all (·.oneCell') = true) (hokB : ∀ x ∈ e.parts, x.cells.toArray.all (·.oneCell') = true) (t : Bs) (W : World) (hW : Nb W0 W) (hT : Wr W0 t W) (hlen : (t ++ endT e).length ≤ 140737488355328) :
    Calls Tryd.prog 74 #[.pointer (some ⟨W0.heap.size, 0, none⟩), .agg e.cells.toArray] W (Lays W0 t (endT e) W) := by
  have hgs1 := hgs
  rw [gEs_all, List.all_eq_true] at hgs1
  have hlt := hT.lt
  have hargs : ExsHas W0 e.av e.args := by cases he with | mk srow skids args prow pkids mrow mpat mguard mbody ac af => exact args
  have hrowB : RowS W0 9 e.pv (e.parts.map Bd.cells) := by cases he with | mk srow skids args prow pkids mrow mpat mguard mbody ac af => exact prow
  have hl1 := Lib.hid (fun t W hW hT hlen => listE_any W0 e.args (fun x hx => Ex.okc (hargs.kids x hx).exs) (fun x hx => wexpr_any W0 hT0 x (hargs.kids x hx) (hgs1 x hx)) e.av hargs.row t W hW hT hlen)
  have hac := Lib.hid (fun nm t W hW hT hlen => wactor_any W0 hT0 nm e.args e.av hargs hgs t W hW hT hlen)
  have hc : e.cells = [e.sv, .int .i64 e.kind, .int .i64 e.at_, sV e.actor, e.av, e.pv, e.mv, .bool e.late, .int .i64 e.after] := rfl
  obtain ⟨X, hX2⟩ : ∃ X, endT e = X := ⟨_, rfl⟩
  have hX := hX2.symm
  rw [hX2] at hlen ⊢
  clear hX2
  unfold endT at hX
  unfold endS at hg
  rw [show (hdB e).kind = e.kind from rfl] at hg
  by_cases hk1 : e.kind = 1
  · simp only [hk1, if_true, if_false, Int.reduceEq, true_or, or_true, or_self] at hg hX
    replace hX := Lib.hid hX
    replace hlen := Lib.hid (show (t ++ X).length ≤ 140737488355328 from hlen)
    rw [hX.out] at hlen
    rw [hc]
    rw [hk1]
    clear hc
    go_enter Tryd.func74, Tryd.ntmps74
    go_upto_region 1 with (fail)
    obtain ⟨W1, hW1⟩ : ∃ W1, W.alloc (.cells #[e.sv, .int .i64 1, .int .i64 e.at_, sV e.actor, e.av, e.pv, e.mv, .bool e.late, .int .i64 e.after] 44) = W1 := ⟨_, rfl⟩
    have b1 : W1.heap[W.heap.size]? = some (.cells #[e.sv, .int .i64 1, .int .i64 e.at_, sV e.actor, e.av, e.pv, e.mv, .bool e.late, .int .i64 e.after] 44 (0, 0)) := by rw [← hW1]; exact new_blk _ _ rfl
    have n1 : Nb W W1 := by rw [← hW1]; exact alloc_nb _ _
    rw [hW1]
    have hT1 := hT.nb n1
    have hA1 := hW.trans n1
    have q1 : Pk W0 W W1 := Pk.of_nb (Nat.le_of_lt hlt) n1
    clear hW1 n1
    have y0 := cell_of_row _ _ 0 _ _ _ b1
    have y1 := cell_of_row _ _ 1 _ _ _ b1
    have y2 := cell_of_row _ _ 2 _ _ _ b1
    have y3 := cell_of_row _ _ 3 _ _ _ b1
    have y4 := cell_of_row _ _ 4 _ _ _ b1
    have y5 := cell_of_row _ _ 5 _ _ _ b1
    have y6 := cell_of_row _ _ 6 _ _ _ b1
    have y7 := cell_of_row _ _ 7 _ _ _ b1
    have y8 := cell_of_row _ _ 8 _ _ _ b1
    go_wp2_with fail
    refine (put_any W0 t [[98, 101, 99, 111, 109, 101, 32]] _ (hT1.nb (alloc_nb _ _)) _ (new_blk _ _ rfl) (by have := hT1.lt; omega) 1 (Nat.le_refl _) (by simp) (by have h := hlen.out; simp only [List.flatten_cons, List.flatten_nil, List.append_nil, List.length_append] at h ⊢; omega)).mono ?_
    rintro r W2 ⟨rfl, hT2, p2⟩
    have hA2 := Pk.nb (hA1.trans (alloc_nb _ _)) p2
    have b2 := p2.block (old_blk b1 _) (by omega) (by decide)
    have q2 : Pk W0 W W2 := q1.trans ((Pk.of_nb (Nat.le_of_lt hT1.lt) (alloc_nb _ _)).trans p2)
    have y0 := cell_of_row _ _ 0 _ _ _ b2
    have y1 := cell_of_row _ _ 1 _ _ _ b2
    have y2 := cell_of_row _ _ 2 _ _ _ b2
    have y3 := cell_of_row _ _ 3 _ _ _ b2
    have y4 := cell_of_row _ _ 4 _ _ _ b2
    have y5 := cell_of_row _ _ 5 _ _ _ b2
    have y6 := cell_of_row _ _ 6 _ _ _ b2
    have y7 := cell_of_row _ _ 7 _ _ _ b2
    have y8 := cell_of_row _ _ 8 _ _ _ b2
    go_wp2_with fail
    refine (hac.out e.actor (t ++ [[98, 101, 99, 111, 109, 101, 32]].flatten) W2 hA2 hT2 (by have h := hlen.out; simp only [List.flatten_cons, List.flatten_nil, List.append_nil, List.length_append] at h ⊢; omega)).mono ?_
    rintro r W3 ⟨rfl, hT3, p3⟩
    have hA3 := Pk.nb hA2 p3
    have b3 := p3.block b2 (by omega) (by decide)
    have q3 : Pk W0 W W3 := q2.trans (p3)
    go_wp2_with fail
    go_end0
    refine ⟨rfl, ?_, q3⟩
    rw [hX.out]
    simpa only [List.flatten_cons, List.flatten_nil, List.append_nil, List.nil_append, List.append_assoc] using hT3
  by_cases hk2 : e.kind = 2
  · simp only [hk2, if_true, if_false, Int.reduceEq, true_or, or_true, or_self] at hg hX
    replace hX := Lib.hid hX
    replace hlen := Lib.hid (show (t ++ X).length ≤ 140737488355328 from hlen)
    rw [hX.out] at hlen
    rw [hc]
    rw [hk2]
    clear hc
    go_enter Tryd.func74, Tryd.ntmps74
    go_upto_region 1 with (fail)
    obtain ⟨W1, hW1⟩ : ∃ W1, W.alloc (.cells #[e.sv, .int .i64 2, .int .i64 e.at_, sV e.actor, e.av, e.pv, e.mv, .bool e.late, .int .i64 e.after] 44) = W1 := ⟨_, rfl⟩
    have b1 : W1.heap[W.heap.size]? = some (.cells #[e.sv, .int .i64 2, .int .i64 e.at_, sV e.actor, e.av, e.pv, e.mv, .bool e.late, .int .i64 e.after] 44 (0, 0)) := by rw [← hW1]; exact new_blk _ _ rfl
    have n1 : Nb W W1 := by rw [← hW1]; exact alloc_nb _ _
    rw [hW1]
    have hT1 := hT.nb n1
    have hA1 := hW.trans n1
    have q1 : Pk W0 W W1 := Pk.of_nb (Nat.le_of_lt hlt) n1
    clear hW1 n1
    have y0 := cell_of_row _ _ 0 _ _ _ b1
    have y1 := cell_of_row _ _ 1 _ _ _ b1
    have y2 := cell_of_row _ _ 2 _ _ _ b1
    have y3 := cell_of_row _ _ 3 _ _ _ b1
    have y4 := cell_of_row _ _ 4 _ _ _ b1
    have y5 := cell_of_row _ _ 5 _ _ _ b1
    have y6 := cell_of_row _ _ 6 _ _ _ b1
    have y7 := cell_of_row _ _ 7 _ _ _ b1
    have y8 := cell_of_row _ _ 8 _ _ _ b1
    go_wp2_with fail
    refine (put_any W0 t [[115, 116, 111, 112]] _ (hT1.nb (alloc_nb _ _)) _ (new_blk _ _ rfl) (by have := hT1.lt; omega) 1 (Nat.le_refl _) (by simp) (by have h := hlen.out; simp only [List.flatten_cons, List.flatten_nil, List.append_nil, List.length_append] at h ⊢; omega)).mono ?_
    rintro r W2 ⟨rfl, hT2, p2⟩
    have hA2 := Pk.nb (hA1.trans (alloc_nb _ _)) p2
    have b2 := p2.block (old_blk b1 _) (by omega) (by decide)
    have q2 : Pk W0 W W2 := q1.trans ((Pk.of_nb (Nat.le_of_lt hT1.lt) (alloc_nb _ _)).trans p2)
    go_wp2_with fail
    go_end0
    refine ⟨rfl, ?_, q2⟩
    rw [hX.out]
    simpa only [List.flatten_cons, List.flatten_nil, List.append_nil, List.nil_append, List.append_assoc] using hT2
  by_cases hk3 : e.kind = 3
  · simp only [hk3, if_true, if_false, Int.reduceEq, true_or, or_true, or_self] at hg hX
    have h6 := congrArg Hd.parts (eqH_d hg)
    replace h6 : e.parts.length = 2 := h6
    obtain ⟨x0, x1, hl⟩ : ∃ x0 x1, e.parts = [x0, x1] := by
      match hq : e.parts, h6 with
      | [a, b], _ => exact ⟨a, b, rfl⟩
    have hB0 := Lib.hid (hB x0 (by rw [hl]; simp))
    have hB1 := Lib.hid (hB x1 (by rw [hl]; simp))
    rw [hl] at hX
    simp only [txBs, List.getD_cons_zero, List.getD_cons_succ] at hX
    obtain ⟨A2, cap2, hv2, -, -, -⟩ := hrowB.head
    rw [List.length_map, h6] at hv2
    have hrow := hrowB
    rw [hv2, hl] at hrow
    obtain ⟨b0, o0, hb0, hx0c⟩ := hrow.at_ (i := 0) (r := x0.cells) rfl
    obtain ⟨b1', o1, hb1, hx1c⟩ := hrow.at_ (i := 1) (r := x1.cells) rfl
    obtain rfl := hb0
    obtain ⟨rfl, rfl⟩ : b0 = b1' ∧ o0 = o1 := by cases hb1; exact ⟨rfl, rfl⟩
    clear hb1 hrow hB
    rw [hv2] at hc
    replace hX := Lib.hid hX
    replace hlen := Lib.hid (show (t ++ X).length ≤ 140737488355328 from hlen)
    rw [hX.out] at hlen
    rw [hc]
    rw [hk3]
    clear hc
    go_enter Tryd.func74, Tryd.ntmps74
    go_upto_region 1 with (fail)
    obtain ⟨W1, hW1⟩ : ∃ W1, W.alloc (.cells #[e.sv, .int .i64 3, .int .i64 e.at_, sV e.actor, e.av, .slice (some ⟨b0, o0, none⟩) 2 cap2, e.mv, .bool e.late, .int .i64 e.after] 44) = W1 := ⟨_, rfl⟩
    have b1 : W1.heap[W.heap.size]? = some (.cells #[e.sv, .int .i64 3, .int .i64 e.at_, sV e.actor, e.av, .slice (some ⟨b0, o0, none⟩) 2 cap2, e.mv, .bool e.late, .int .i64 e.after] 44 (0, 0)) := by rw [← hW1]; exact new_blk _ _ rfl
    have n1 : Nb W W1 := by rw [← hW1]; exact alloc_nb _ _
    rw [hW1]
    have hT1 := hT.nb n1
    have hA1 := hW.trans n1
    have q1 : Pk W0 W W1 := Pk.of_nb (Nat.le_of_lt hlt) n1
    clear hW1 n1
    have y0 := cell_of_row _ _ 0 _ _ _ b1
    have y1 := cell_of_row _ _ 1 _ _ _ b1
    have y2 := cell_of_row _ _ 2 _ _ _ b1
    have y3 := cell_of_row _ _ 3 _ _ _ b1
    have y4 := cell_of_row _ _ 4 _ _ _ b1
    have y5 := cell_of_row _ _ 5 _ _ _ b1
    have y6 := cell_of_row _ _ 6 _ _ _ b1
    have y7 := cell_of_row _ _ 7 _ _ _ b1
    have y8 := cell_of_row _ _ 8 _ _ _ b1
    go_wp2_with fail
    refine (put_any W0 t [[105, 102, 32]] _ (hT1.nb (alloc_nb _ _)) _ (new_blk _ _ rfl) (by have := hT1.lt; omega) 1 (Nat.le_refl _) (by simp) (by have h := hlen.out; simp only [List.flatten_cons, List.flatten_nil, List.append_nil, List.length_append] at h ⊢; omega)).mono ?_
    rintro r W2 ⟨rfl, hT2, p2⟩
    have hA2 := Pk.nb (hA1.trans (alloc_nb _ _)) p2
    have b2 := p2.block (old_blk b1 _) (by omega) (by decide)
    have q2 : Pk W0 W W2 := q1.trans ((Pk.of_nb (Nat.le_of_lt hT1.lt) (alloc_nb _ _)).trans p2)
    have y0 := cell_of_row _ _ 0 _ _ _ b2
    have y1 := cell_of_row _ _ 1 _ _ _ b2
    have y2 := cell_of_row _ _ 2 _ _ _ b2
    have y3 := cell_of_row _ _ 3 _ _ _ b2
    have y4 := cell_of_row _ _ 4 _ _ _ b2
    have y5 := cell_of_row _ _ 5 _ _ _ b2
    have y6 := cell_of_row _ _ 6 _ _ _ b2
    have y7 := cell_of_row _ _ 7 _ _ _ b2
    have y8 := cell_of_row _ _ 8 _ _ _ b2
    go_wp2_with fail
    refine (hl1.out (t ++ [[105, 102, 32]].flatten) W2 hA2 hT2 (by have h := hlen.out; simp only [List.flatten_cons, List.flatten_nil, List.append_nil, List.length_append] at h ⊢; omega)).mono ?_
    rintro r W3 ⟨rfl, hT3, p3⟩
    have hA3 := Pk.nb hA2 p3
    have b3 := p3.block b2 (by omega) (by decide)
    have q3 : Pk W0 W W3 := q2.trans (p3)
    have y0 := cell_of_row _ _ 0 _ _ _ b3
    have y1 := cell_of_row _ _ 1 _ _ _ b3
    have y2 := cell_of_row _ _ 2 _ _ _ b3
    have y3 := cell_of_row _ _ 3 _ _ _ b3
    have y4 := cell_of_row _ _ 4 _ _ _ b3
    have y5 := cell_of_row _ _ 5 _ _ _ b3
    have y6 := cell_of_row _ _ 6 _ _ _ b3
    have y7 := cell_of_row _ _ 7 _ _ _ b3
    have y8 := cell_of_row _ _ 8 _ _ _ b3
    go_wp2_with fail
    refine (put_any W0 ((t ++ [[105, 102, 32]].flatten) ++ jnT (txEs e.args)) [[32]] _ (hT3.nb (alloc_nb _ _)) _ (new_blk _ _ rfl) (by have := hT3.lt; omega) 1 (Nat.le_refl _) (by simp) (by have h := hlen.out; simp only [List.flatten_cons, List.flatten_nil, List.append_nil, List.length_append] at h ⊢; omega)).mono ?_
    rintro r W4 ⟨rfl, hT4, p4⟩
    have hA4 := Pk.nb (hA3.trans (alloc_nb _ _)) p4
    have b4 := p4.block (old_blk b3 _) (by omega) (by decide)
    have q4 : Pk W0 W W4 := q3.trans ((Pk.of_nb (Nat.le_of_lt hT3.lt) (alloc_nb _ _)).trans p4)
    have y0 := cell_of_row _ _ 0 _ _ _ b4
    have y1 := cell_of_row _ _ 1 _ _ _ b4
    have y2 := cell_of_row _ _ 2 _ _ _ b4
    have y3 := cell_of_row _ _ 3 _ _ _ b4
    have y4 := cell_of_row _ _ 4 _ _ _ b4
    have y5 := cell_of_row _ _ 5 _ _ _ b4
    have y6 := cell_of_row _ _ 6 _ _ _ b4
    have y7 := cell_of_row _ _ 7 _ _ _ b4
    have y8 := cell_of_row _ _ 8 _ _ _ b4
    have z0 := hA4.cell (hx0c 0 _ rfl)
    have z1 := hA4.cell (hx0c 1 _ rfl)
    have z2 := hA4.cell (hx0c 2 _ rfl)
    have z3 := hA4.cell (hx0c 3 _ rfl)
    have z4 := hA4.cell (hx0c 4 _ rfl)
    have z5 := hA4.cell (hx0c 5 _ rfl)
    have z6 := hA4.cell (hx0c 6 _ rfl)
    have z7 := hA4.cell (hx0c 7 _ rfl)
    have z8 := hA4.cell (hx0c 8 _ rfl)
    simp only [Nat.zero_mul, Nat.one_mul, Nat.add_zero] at z0 z1 z2 z3 z4 z5 z6 z7 z8
    go_wp2_with fail
    refine (hB0.out (((t ++ [[105, 102, 32]].flatten) ++ jnT (txEs e.args)) ++ [[32]].flatten) W4 hA4 hT4 (by have h := hlen.out; simp only [List.flatten_cons, List.flatten_nil, List.append_nil, List.length_append] at h ⊢; omega)).mono ?_
    rintro r W5 ⟨rfl, hT5, p5⟩
    have hA5 := Pk.nb hA4 p5
    have b5 := p5.block b4 (by omega) (by decide)
    have q5 : Pk W0 W W5 := q4.trans (p5)
    have y0 := cell_of_row _ _ 0 _ _ _ b5
    have y1 := cell_of_row _ _ 1 _ _ _ b5
    have y2 := cell_of_row _ _ 2 _ _ _ b5
    have y3 := cell_of_row _ _ 3 _ _ _ b5
    have y4 := cell_of_row _ _ 4 _ _ _ b5
    have y5 := cell_of_row _ _ 5 _ _ _ b5
    have y6 := cell_of_row _ _ 6 _ _ _ b5
    have y7 := cell_of_row _ _ 7 _ _ _ b5
    have y8 := cell_of_row _ _ 8 _ _ _ b5
    go_wp2_with fail
    refine (put_any W0 ((((t ++ [[105, 102, 32]].flatten) ++ jnT (txEs e.args)) ++ [[32]].flatten) ++ txB x0) [[32, 101, 108, 115, 101, 32]] _ (hT5.nb (alloc_nb _ _)) _ (new_blk _ _ rfl) (by have := hT5.lt; omega) 1 (Nat.le_refl _) (by simp) (by have h := hlen.out; simp only [List.flatten_cons, List.flatten_nil, List.append_nil, List.length_append] at h ⊢; omega)).mono ?_
    rintro r W6 ⟨rfl, hT6, p6⟩
    have hA6 := Pk.nb (hA5.trans (alloc_nb _ _)) p6
    have b6 := p6.block (old_blk b5 _) (by omega) (by decide)
    have q6 : Pk W0 W W6 := q5.trans ((Pk.of_nb (Nat.le_of_lt hT5.lt) (alloc_nb _ _)).trans p6)
    have y0 := cell_of_row _ _ 0 _ _ _ b6
    have y1 := cell_of_row _ _ 1 _ _ _ b6
    have y2 := cell_of_row _ _ 2 _ _ _ b6
    have y3 := cell_of_row _ _ 3 _ _ _ b6
    have y4 := cell_of_row _ _ 4 _ _ _ b6
    have y5 := cell_of_row _ _ 5 _ _ _ b6
    have y6 := cell_of_row _ _ 6 _ _ _ b6
    have y7 := cell_of_row _ _ 7 _ _ _ b6
    have y8 := cell_of_row _ _ 8 _ _ _ b6
    have z0 := hA6.cell (hx1c 0 _ rfl)
    have z1 := hA6.cell (hx1c 1 _ rfl)
    have z2 := hA6.cell (hx1c 2 _ rfl)
    have z3 := hA6.cell (hx1c 3 _ rfl)
    have z4 := hA6.cell (hx1c 4 _ rfl)
    have z5 := hA6.cell (hx1c 5 _ rfl)
    have z6 := hA6.cell (hx1c 6 _ rfl)
    have z7 := hA6.cell (hx1c 7 _ rfl)
    have z8 := hA6.cell (hx1c 8 _ rfl)
    simp only [Nat.zero_mul, Nat.one_mul, Nat.add_zero] at z0 z1 z2 z3 z4 z5 z6 z7 z8
    go_wp2_with fail
    refine (hB1.out (((((t ++ [[105, 102, 32]].flatten) ++ jnT (txEs e.args)) ++ [[32]].flatten) ++ txB x0) ++ [[32, 101, 108, 115, 101, 32]].flatten) W6 hA6 hT6 (by have h := hlen.out; simp only [List.flatten_cons, List.flatten_nil, List.append_nil, List.length_append] at h ⊢; omega)).mono ?_
    rintro r W7 ⟨rfl, hT7, p7⟩
    have hA7 := Pk.nb hA6 p7
    have b7 := p7.block b6 (by omega) (by decide)
    have q7 : Pk W0 W W7 := q6.trans (p7)
    go_wp2_with fail
    go_end0
    refine ⟨rfl, ?_, q7⟩
    rw [hX.out]
    simpa only [List.flatten_cons, List.flatten_nil, List.append_nil, List.nil_append, List.append_assoc] using hT7
  by_cases hk4 : e.kind = 4
  · simp only [hk4, if_true, if_false, Int.reduceEq, true_or, or_true, or_self] at hg hX
    have hrc : Hid (∀ t W, Nb W0 W → Wr W0 t W → (t ++ rcT e.late e.after (txBs e.parts) (txAs e.arms)).length ≤ 140737488355328 → Calls Tryd.prog 77 #[.pointer (some ⟨W0.heap.size, 0, none⟩), .agg e.cells.toArray] W (Lays W0 t (rcT e.late e.after (txBs e.parts) (txAs e.arms)) W)) := Lib.hid (by
      cases hl : e.late with
      | false => rw [← hl]; exact fun t W hW hT hlen => wrecv_f W0 hT0 e he hl hA hB hokA hokB t W hW hT hlen
      | true => rw [← hl]; exact fun t W hW hT hlen => wrecv_t W0 hT0 e he hl hA hB hokA hokB t W hW hT hlen)
    rw [hc, hk4] at hrc
    replace hX := Lib.hid hX
    replace hlen := Lib.hid (show (t ++ X).length ≤ 140737488355328 from hlen)
    rw [hX.out] at hlen
    rw [hc]
    rw [hk4]
    clear hc
    go_enter Tryd.func74, Tryd.ntmps74
    go_upto_region 1 with (fail)
    obtain ⟨W1, hW1⟩ : ∃ W1, W.alloc (.cells #[e.sv, .int .i64 4, .int .i64 e.at_, sV e.actor, e.av, e.pv, e.mv, .bool e.late, .int .i64 e.after] 44) = W1 := ⟨_, rfl⟩
    have b1 : W1.heap[W.heap.size]? = some (.cells #[e.sv, .int .i64 4, .int .i64 e.at_, sV e.actor, e.av, e.pv, e.mv, .bool e.late, .int .i64 e.after] 44 (0, 0)) := by rw [← hW1]; exact new_blk _ _ rfl
    have n1 : Nb W W1 := by rw [← hW1]; exact alloc_nb _ _
    rw [hW1]
    have hT1 := hT.nb n1
    have hA1 := hW.trans n1
    have q1 : Pk W0 W W1 := Pk.of_nb (Nat.le_of_lt hlt) n1
    clear hW1 n1
    have y0 := cell_of_row _ _ 0 _ _ _ b1
    have y1 := cell_of_row _ _ 1 _ _ _ b1
    have y2 := cell_of_row _ _ 2 _ _ _ b1
    have y3 := cell_of_row _ _ 3 _ _ _ b1
    have y4 := cell_of_row _ _ 4 _ _ _ b1
    have y5 := cell_of_row _ _ 5 _ _ _ b1
    have y6 := cell_of_row _ _ 6 _ _ _ b1
    have y7 := cell_of_row _ _ 7 _ _ _ b1
    have y8 := cell_of_row _ _ 8 _ _ _ b1
    go_wp2_with fail
    refine (hrc.out t W1 hA1 hT1 (by have h := hlen.out; simp only [List.flatten_cons, List.flatten_nil, List.append_nil, List.length_append] at h ⊢; omega)).mono ?_
    rintro r W2 ⟨rfl, hT2, p2⟩
    have hA2 := Pk.nb hA1 p2
    have b2 := p2.block b1 (by omega) (by decide)
    have q2 : Pk W0 W W2 := q1.trans (p2)
    go_wp2_with fail
    go_end0
    refine ⟨rfl, ?_, q2⟩
    rw [hX.out]
    simpa only [List.flatten_cons, List.flatten_nil, List.append_nil, List.nil_append, List.append_assoc] using hT2
  · simp only [hk1, hk2, hk3, hk4, if_false, Bool.false_eq_true] at hg
theorem wbody_one (W0 : World) (hT0 : Tw W0) (e : Bd) (he : e.Has W0) (hg : gB e = true) (hA : ∀ m ∈ e.arms, ∀ t W, Nb W0 W → Wr W0 t W → (t ++ txA m).length ≤ 140737488355328 → Calls Tryd.prog 80 #[.pointer (some ⟨W0.heap.size, 0, none⟩), .agg m.cells.toArray] W (Lays W0 t (txA m) W))
    (hB : ∀ x ∈ e.parts, CB W0 x) (hokA : ∀ m ∈ e.arms, m.cells.toArray.all (·.oneCell') = true) (hokB : ∀ x ∈ e.parts, x.cells.toArray.all (·.oneCell') = true) : CB W0 e := by
  intro t W hW hT hlen
  rw [gB_eq] at hg
  simp only [Bool.and_eq_true] at hg
  obtain ⟨hge, hgst, hgs, -, -⟩ := hg
  rw [gSts_all, List.all_eq_true] at hgst
  have hlt := hT.lt
  have hend := Lib.hid (fun t W hW hT hlen => wend_any W0 hT0 e he hge hgs hA hB hokA hokB t W hW hT hlen)
  have hrow : RowS W0 5 e.sv (e.stmts.map St.cells) := by cases he with | mk srow skids args prow pkids mrow mpat mguard mbody ac af => exact srow
  have hkids : ∀ s ∈ e.stmts, s.Has W0 := by cases he with | mk srow skids args prow pkids mrow mpat mguard mbody ac af => exact skids
  obtain ⟨A0, cap0, hv0, hcap, hlq, -⟩ := hrow.head
  rw [List.length_map] at hv0 hlq
  have hc : e.cells = [.slice A0 e.stmts.length cap0, .int .i64 e.kind, .int .i64 e.at_, sV e.actor, e.av, e.pv, e.mv, .bool e.late, .int .i64 e.after] := by
    rw [← hv0]; rfl
  rw [hv0] at hrow
  have hX := txB_eq e
  obtain ⟨X, hX2⟩ : ∃ X, txB e = X := ⟨_, rfl⟩
  rw [hX2] at hX hlen ⊢
  clear hX2
  rw [txSs_map] at hX
  rw [hX] at hlen
  rw [hc] at hend ⊢
  clear hc
  replace hX := Lib.hid hX
  replace hlen := Lib.hid hlen
  clear hA hB
  go_enter Tryd.func66, Tryd.ntmps66
  go_upto_region 1 with (fail)
  obtain ⟨W1, hW1⟩ : ∃ W1, W.alloc (.cells #[.slice A0 e.stmts.length cap0, .int .i64 e.kind, .int .i64 e.at_, sV e.actor, e.av, e.pv, e.mv, .bool e.late, .int .i64 e.after] 44) = W1 := ⟨_, rfl⟩
  have b1 : W1.heap[W.heap.size]? = some (.cells #[.slice A0 e.stmts.length cap0, .int .i64 e.kind, .int .i64 e.at_, sV e.actor, e.av, e.pv, e.mv, .bool e.late, .int .i64 e.after] 44 (0, 0)) := by rw [← hW1]; exact new_blk _ _ rfl
  have n1 : Nb W W1 := by rw [← hW1]; exact alloc_nb _ _
  rw [hW1]
  have hT1 := hT.nb n1
  have hA1 := hW.trans n1
  have q1 : Pk W0 W W1 := Pk.of_nb (Nat.le_of_lt hlt) n1
  clear hW1 n1
  have y0 := cell_of_row _ _ 0 _ _ _ b1
  have y1 := cell_of_row _ _ 1 _ _ _ b1
  have y2 := cell_of_row _ _ 2 _ _ _ b1
  have y3 := cell_of_row _ _ 3 _ _ _ b1
  have y4 := cell_of_row _ _ 4 _ _ _ b1
  have y5 := cell_of_row _ _ 5 _ _ _ b1
  have y6 := cell_of_row _ _ 6 _ _ _ b1
  have y7 := cell_of_row _ _ 7 _ _ _ b1
  have y8 := cell_of_row _ _ 8 _ _ _ b1
  go_wp2_with fail
  refine (put_any W0 t [[123, 32]] _ (hT1.nb (alloc_nb _ _)) _ (new_blk _ _ rfl) (by have := hT1.lt; omega) 1 (Nat.le_refl _) (by simp) (by have h := hlen.out; simp only [List.flatten_cons, List.flatten_nil, List.append_nil, List.length_append] at h ⊢; omega)).mono ?_
  rintro r W2 ⟨rfl, hT2, p2⟩
  have hA2 := Pk.nb (hA1.trans (alloc_nb _ _)) p2
  have b2 := p2.block (old_blk b1 _) (by omega) (by decide)
  have q2 : Pk W0 W W2 := q1.trans ((Pk.of_nb (Nat.le_of_lt hT1.lt) (alloc_nb _ _)).trans p2)
  have y0 := cell_of_row _ _ 0 _ _ _ b2
  have y1 := cell_of_row _ _ 1 _ _ _ b2
  have y2 := cell_of_row _ _ 2 _ _ _ b2
  have y3 := cell_of_row _ _ 3 _ _ _ b2
  have y4 := cell_of_row _ _ 4 _ _ _ b2
  have y5 := cell_of_row _ _ 5 _ _ _ b2
  have y6 := cell_of_row _ _ 6 _ _ _ b2
  have y7 := cell_of_row _ _ 7 _ _ _ b2
  have y8 := cell_of_row _ _ 8 _ _ _ b2
  go_wp2_with fail
  obtain ⟨M, hM⟩ : ∃ M, e.stmts.length = M := ⟨_, rfl⟩
  have hMh := Lib.hid hM
  rw [hM] at hlq ⊢
  clear hM
  have hpre := Lib.hid hlen.out
  go_loopw [12] (fun si wr => ∃ i : Nat, i ≤ M ∧ si = .int .i64 i ∧ Wr W0 ((t ++ [[123, 32]].flatten) ++ ((e.stmts.take i).map (fun s => txS s ++ [32])).flatten) wr ∧ Pk W0 W2 wr) (fun si _ => M - (intOf si).toNat)
  case atStart => exact ⟨0, Nat.zero_le _, rfl, by simpa using hT2, Pk.refl _ _⟩
  case round =>
    obtain ⟨i, hi2, rfl, hj, hp⟩ := hrel
    have hnb : Nb W0 wr := Pk.nb hA2 hp
    by_cases hlt2 : i < M
    · have hlt3 : (i : Int) < (M : Int) := by omega
      obtain ⟨x, hx⟩ : ∃ x, e.stmts[i]? = some x := ⟨_, List.getElem?_eq_getElem (by rw [hMh.out]; exact hlt2)⟩
      obtain ⟨b, o, hbo, hxc⟩ := RowS.at_ hrow (i := i) (r := x.cells) (by rw [List.getElem?_map, hx]; rfl)
      obtain rfl := hbo
      have x0 := hnb.cell (hxc 0 _ rfl)
      have x1 := hnb.cell (hxc 1 _ rfl)
      have x2 := hnb.cell (hxc 2 _ rfl)
      have x3 := hnb.cell (hxc 3 _ rfl)
      have x4 := hnb.cell (hxc 4 _ rfl)
      rw [Nat.add_zero] at x0
      have htk := flat_take (fun s => txS s ++ [32]) e.stmts i x hx
      have hle : ((t ++ [[123, 32]].flatten) ++ (((e.stmts.take i).map (fun s => txS s ++ [32])).flatten ++ ((fun s => txS s ++ [32]) x))).length ≤ 140737488355328 := by
        have h1 := hlen.out
        have h2 := flat_le (fun s => txS s ++ [32]) e.stmts (i + 1)
        rw [htk] at h2
        simp only [List.flatten_cons, List.flatten_nil, List.append_nil, List.length_append] at h1 h2 ⊢
        omega
      have hmem := List.mem_of_getElem? hx
      have hnbh := Lib.hid hnb
      have hlt4 : W0.heap.size < wr.heap.size := hj.lt
      have hox := Lib.hid (St.okc (hkids x hmem))
      have hone1 := Lib.hid (fun t W hW hT hlen => wstmt_any W0 hT0 x (hkids x hmem) (hgst x hmem) t W hW hT hlen)
      have hjh := Lib.hid hj
      replace htk := Lib.hid htk
      replace hle := Lib.hid hle
      clear hx hxc hj
      obtain ⟨T, hTT⟩ : ∃ T, (t ++ [[123, 32]].flatten) ++ ((e.stmts.take i).map (fun s => txS s ++ [32])).flatten = T := ⟨_, rfl⟩
      have hTh := Lib.hid hTT
      rw [hTT] at hjh
      have hle2 := Lib.hid (show (T ++ ((fun s => txS s ++ [32]) x)).length ≤ 140737488355328 by rw [← hTT, List.append_assoc]; exact hle.out)
      clear hTT
      go_wp2_with (first
        | (refine wpList_store_new' rfl 39 (.tmp 5) (.tmp 15) rfl _ x.cells.toArray _ rfl rfl (show (Tryd.prog.info? 39).map (·.size) = some 5 by kernel_rfl) rfl hox.out ?_; obtain ⟨W5, hW5⟩ : ∃ W5, wr.alloc (.cells x.cells.toArray 39) = W5 := ⟨_, rfl⟩; have b5 : W5.heap[wr.heap.size]? = some (.cells x.cells.toArray 39 (0, 0)) := (by rw [← hW5]; exact new_blk _ _ rfl); have n5 : Nb wr W5 := (by rw [← hW5]; exact alloc_nb _ _); have z5 := n5.size; rw [hW5]; clear hW5)
        | (refine wpList_load_row rfl 39 (.tmp 5) rfl wr.heap.size rfl 39 x.cells.toArray (0, 0) _ b5 Tryd.underlying39 rfl (show (Tryd.prog.info? 39).map (·.size) = some 5 by kernel_rfl) ?_)
        | (go_at_call 73; refine (hone1.out T _ (hnbh.out.trans n5) (hjh.out.nb n5) (by have := hle2.out; simp only [List.flatten_cons, List.flatten_nil, List.append_nil, List.length_append] at this ⊢; omega)).mono ?_; rintro r w6 ⟨rfl, hj6, hp6⟩; have z6 := hj6.lt)
        | (go_at_call 54; refine (put_any W0 _ [[32]] _ (hj6.nb (alloc_nb _ _)) _ (new_blk _ _ rfl) (by omega) 1 (Nat.le_refl _) (by simp) (by have := hle2.out; simp only [List.flatten_cons, List.flatten_nil, List.append_nil, List.length_append] at this ⊢; omega)).mono ?_; rintro r w7 ⟨rfl, hj7, hp7⟩))
      exact ⟨⟨i + 1, by omega, by simp, by rw [htk.out, ← List.append_assoc, hTh.out]; simpa only [List.flatten_cons, List.flatten_nil, List.append_nil, List.append_assoc] using hj7, hp.trans ((Pk.of_nb (Nat.le_of_lt hlt4) n5).trans (hp6.trans ((Pk.of_nb (Nat.le_of_lt z6) (alloc_nb _ _)).trans hp7)))⟩, by simp [intOf] <;> omega⟩
    · obtain rfl : i = M := by omega
      have hall : ((e.stmts.take i).map (fun s => txS s ++ [32])).flatten = (e.stmts.map (fun s => txS s ++ [32])).flatten := by rw [← hMh.out, List.take_length]
      rw [hall] at hj
      clear hMh hpre
      have bq := hp.block b2 (by omega) (by decide)
      have qq : Pk W0 W wr := q2.trans hp
      have y0 := cell_of_row _ _ 0 _ _ _ bq
      have y1 := cell_of_row _ _ 1 _ _ _ bq
      have y2 := cell_of_row _ _ 2 _ _ _ bq
      have y3 := cell_of_row _ _ 3 _ _ _ bq
      have y4 := cell_of_row _ _ 4 _ _ _ bq
      have y5 := cell_of_row _ _ 5 _ _ _ bq
      have y6 := cell_of_row _ _ 6 _ _ _ bq
      have y7 := cell_of_row _ _ 7 _ _ _ bq
      have y8 := cell_of_row _ _ 8 _ _ _ bq
      go_wp2_with fail
      refine (hend.out ((t ++ [[123, 32]].flatten) ++ (e.stmts.map (fun s => txS s ++ [32])).flatten) wr hnb hj (by have h := hlen.out; simp only [List.flatten_cons, List.flatten_nil, List.append_nil, List.length_append] at h ⊢; omega)).mono ?_
      rintro r W3 ⟨rfl, hT3, p3⟩
      have hA3 := Pk.nb hnb p3
      have b3 := p3.block bq (by omega) (by decide)
      have q3 : Pk W0 W W3 := qq.trans (p3)
      have y0 := cell_of_row _ _ 0 _ _ _ b3
      have y1 := cell_of_row _ _ 1 _ _ _ b3
      have y2 := cell_of_row _ _ 2 _ _ _ b3
      have y3 := cell_of_row _ _ 3 _ _ _ b3
      have y4 := cell_of_row _ _ 4 _ _ _ b3
      have y5 := cell_of_row _ _ 5 _ _ _ b3
      have y6 := cell_of_row _ _ 6 _ _ _ b3
      have y7 := cell_of_row _ _ 7 _ _ _ b3
      have y8 := cell_of_row _ _ 8 _ _ _ b3
      go_wp2_with fail
      refine (put_any W0 (((t ++ [[123, 32]].flatten) ++ (e.stmts.map (fun s => txS s ++ [32])).flatten) ++ endT e) [[32, 125]] _ (hT3.nb (alloc_nb _ _)) _ (new_blk _ _ rfl) (by have := hT3.lt; omega) 1 (Nat.le_refl _) (by simp) (by have h := hlen.out; simp only [List.flatten_cons, List.flatten_nil, List.append_nil, List.length_append] at h ⊢; omega)).mono ?_
      rintro r W4 ⟨rfl, hT4, p4⟩
      have hA4 := Pk.nb (hA3.trans (alloc_nb _ _)) p4
      have b4 := p4.block (old_blk b3 _) (by omega) (by decide)
      have q4 : Pk W0 W W4 := q3.trans ((Pk.of_nb (Nat.le_of_lt hT3.lt) (alloc_nb _ _)).trans p4)
      go_wp2_with fail
      go_end0
      refine ⟨rfl, ?_, q4⟩
      rw [hX.out]
      simpa only [List.flatten_cons, List.flatten_nil, List.append_nil, List.nil_append, List.append_assoc] using hT4
end Go.Proofs.YtojogolmcclpoaaDoor
