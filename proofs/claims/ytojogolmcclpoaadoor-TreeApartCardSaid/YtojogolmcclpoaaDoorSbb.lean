/-
  Proved here: of the code: laying an arm. Conditions: stated.
-/
import Derived.Test.YtojogolmcclpoaaDoorSba
import Derived.Test.YtojogolmcclpoaaDoorSah
import Derived.Test.YtojogolmcclpoaaDoorSak
namespace Go.Proofs.YtojogolmcclpoaaDoor
open Go.RowKit Go.Shelf
set_option linter.unusedVariables false
set_option linter.unusedSimpArgs false
set_option maxRecDepth 100000
set_option maxHeartbeats 4000000
attribute [-go_sem] run_eql_struct
/-- What laying a body does. -/
def CB (W0 : World) (x : Bd) : Prop := ∀ t W, Nb W0 W → Wr W0 t W → (t ++ txB x).length ≤ 140737488355328 → Calls Tryd.prog 66 #[.pointer (some ⟨W0.heap.size, 0, none⟩), .agg x.cells.toArray] W (Lays W0 t (txB x) W)
theorem warm_any (W0 : World) (hT0 : Tw W0) (e : Am) (hp : e.pat.Has W0) (hgd : ExsHas W0 e.gv e.guard) (hb : CB W0 e.body) (hg : gA e = true) (t : Bs) (W : World) (hW : Nb W0 W) (hT : Wr W0 t W) (hlen : (t ++ txA e).length ≤ 140737488355328) :
    Calls Tryd.prog 80 #[.pointer (some ⟨W0.heap.size, 0, none⟩), .agg e.cells.toArray] W (Lays W0 t (txA e) W) := by
  rw [gA_eq] at hg
  simp only [Bool.and_eq_true] at hg
  obtain ⟨-, hgp, hgg, -⟩ := hg
  rw [gEs_all, List.all_eq_true] at hgg
  have hlt := hT.lt
  obtain ⟨A0, cap0, hv0, hcap, hlq, -⟩ := hgd.row.head
  rw [List.length_map] at hv0 hlq
  have hc : e.cells = [.int .i64 e.pat.kind, .int .i64 e.pat.at_, .int .i64 e.pat.n, sV e.pat.name, e.pat.av, .slice A0 e.guard.length cap0, e.body.sv, .int .i64 e.body.kind, .int .i64 e.body.at_, sV e.body.actor, e.body.av, e.body.pv, e.body.mv, .bool e.body.late, .int .i64 e.body.after] := by
    rw [← hv0]; rfl
  have hrow := hgd.row
  rw [hv0] at hrow
  have hX := txA_eq e
  obtain ⟨X, hX2⟩ : ∃ X, txA e = X := ⟨_, rfl⟩
  rw [hX2] at hX hlen ⊢
  clear hX2
  rw [gdT_map] at hX
  rw [hX] at hlen
  rw [hc]
  clear hc
  replace hX := Lib.hid hX
  replace hlen := Lib.hid hlen
  have hpat := Lib.hid (fun t W hW hT hlen => wpat_any W0 hT0 e.pat hp hgp t W hW hT hlen)
  replace hb := Lib.hid hb
  go_enter Tryd.func80, Tryd.ntmps80
  go_upto_region 1 with (fail)
  obtain ⟨W1, hW1⟩ : ∃ W1, W.alloc (.cells #[.int .i64 e.pat.kind, .int .i64 e.pat.at_, .int .i64 e.pat.n, sV e.pat.name, e.pat.av, .slice A0 e.guard.length cap0, e.body.sv, .int .i64 e.body.kind, .int .i64 e.body.at_, sV e.body.actor, e.body.av, e.body.pv, e.body.mv, .bool e.body.late, .int .i64 e.body.after] 78) = W1 := ⟨_, rfl⟩
  have b1 : W1.heap[W.heap.size]? = some (.cells #[.int .i64 e.pat.kind, .int .i64 e.pat.at_, .int .i64 e.pat.n, sV e.pat.name, e.pat.av, .slice A0 e.guard.length cap0, e.body.sv, .int .i64 e.body.kind, .int .i64 e.body.at_, sV e.body.actor, e.body.av, e.body.pv, e.body.mv, .bool e.body.late, .int .i64 e.body.after] 78 (0, 0)) := by rw [← hW1]; exact new_blk _ _ rfl
  have n1 : Nb W W1 := by rw [← hW1]; exact alloc_nb _ _
  rw [hW1]
  have hT1 := hT.nb n1
  have hA1 := hW.trans n1
  have q1 : Pk W0 W W1 := Pk.of_nb (Nat.le_of_lt hlt) n1
  clear hW1 n1
  have y0 := cell_of_row _ _ 0 _ _ _ b1
  have y1 := cell_of_row _ _ 1 _ _ _ b1
  have y2 := cell_of_row _ _ 2 _ _ _ b1
  have y3 := cell_of_row _ _ 3 _ _ _ b1
  have y4 := cell_of_row _ _ 4 _ _ _ b1
  have y5 := cell_of_row _ _ 5 _ _ _ b1
  have y6 := cell_of_row _ _ 6 _ _ _ b1
  have y7 := cell_of_row _ _ 7 _ _ _ b1
  have y8 := cell_of_row _ _ 8 _ _ _ b1
  have y9 := cell_of_row _ _ 9 _ _ _ b1
  have y10 := cell_of_row _ _ 10 _ _ _ b1
  have y11 := cell_of_row _ _ 11 _ _ _ b1
  have y12 := cell_of_row _ _ 12 _ _ _ b1
  have y13 := cell_of_row _ _ 13 _ _ _ b1
  have y14 := cell_of_row _ _ 14 _ _ _ b1
  go_wp2_with fail
  refine (hpat.out t W1 hA1 hT1 (by have h := hlen.out; simp only [List.flatten_cons, List.flatten_nil, List.append_nil, List.length_append] at h ⊢; omega)).mono ?_
  rintro r W2 ⟨rfl, hT2, p2⟩
  have hA2 := Pk.nb hA1 p2
  have b2 := p2.block b1 (by omega) (by decide)
  have q2 : Pk W0 W W2 := q1.trans (p2)
  have y0 := cell_of_row _ _ 0 _ _ _ b2
  have y1 := cell_of_row _ _ 1 _ _ _ b2
  have y2 := cell_of_row _ _ 2 _ _ _ b2
  have y3 := cell_of_row _ _ 3 _ _ _ b2
  have y4 := cell_of_row _ _ 4 _ _ _ b2
  have y5 := cell_of_row _ _ 5 _ _ _ b2
  have y6 := cell_of_row _ _ 6 _ _ _ b2
  have y7 := cell_of_row _ _ 7 _ _ _ b2
  have y8 := cell_of_row _ _ 8 _ _ _ b2
  have y9 := cell_of_row _ _ 9 _ _ _ b2
  have y10 := cell_of_row _ _ 10 _ _ _ b2
  have y11 := cell_of_row _ _ 11 _ _ _ b2
  have y12 := cell_of_row _ _ 12 _ _ _ b2
  have y13 := cell_of_row _ _ 13 _ _ _ b2
  have y14 := cell_of_row _ _ 14 _ _ _ b2
  go_wp2_with fail
  obtain ⟨M, hM⟩ : ∃ M, e.guard.length = M := ⟨_, rfl⟩
  have hMh := Lib.hid hM
  rw [hM] at hlq ⊢
  clear hM
  have hpre := Lib.hid hlen.out
  go_loopw [13] (fun si wr => ∃ i : Nat, i ≤ M ∧ si = .int .i64 i ∧ Wr W0 ((t ++ txT e.pat) ++ ((e.guard.take i).map (fun g => [32, 119, 104, 101, 110, 32] ++ txE g)).flatten) wr ∧ Pk W0 W2 wr) (fun si _ => M - (intOf si).toNat)
  case atStart => exact ⟨0, Nat.zero_le _, rfl, by simpa using hT2, Pk.refl _ _⟩
  case round =>
    obtain ⟨i, hi2, rfl, hj, hp⟩ := hrel
    have hnb : Nb W0 wr := Pk.nb hA2 hp
    by_cases hlt2 : i < M
    · have hlt3 : (i : Int) < (M : Int) := by omega
      obtain ⟨x, hx⟩ : ∃ x, e.guard[i]? = some x := ⟨_, List.getElem?_eq_getElem (by rw [hMh.out]; exact hlt2)⟩
      obtain ⟨b, o, hbo, hxc⟩ := RowS.at_ hrow (i := i) (r := x.cells) (by rw [List.getElem?_map, hx]; rfl)
      obtain rfl := hbo
      have x0 := hnb.cell (hxc 0 _ rfl)
      have x1 := hnb.cell (hxc 1 _ rfl)
      have x2 := hnb.cell (hxc 2 _ rfl)
      have x3 := hnb.cell (hxc 3 _ rfl)
      have x4 := hnb.cell (hxc 4 _ rfl)
      rw [Nat.add_zero] at x0
      have htk := flat_take (fun g => [32, 119, 104, 101, 110, 32] ++ txE g) e.guard i x hx
      have hle : ((t ++ txT e.pat) ++ (((e.guard.take i).map (fun g => [32, 119, 104, 101, 110, 32] ++ txE g)).flatten ++ ((fun g => [32, 119, 104, 101, 110, 32] ++ txE g) x))).length ≤ 140737488355328 := by
        have h1 := hlen.out
        have h2 := flat_le (fun g => [32, 119, 104, 101, 110, 32] ++ txE g) e.guard (i + 1)
        rw [htk] at h2
        simp only [List.flatten_cons, List.flatten_nil, List.append_nil, List.length_append] at h1 h2 ⊢
        omega
      have hmem := List.mem_of_getElem? hx
      have hnbh := Lib.hid hnb
      have hlt4 : W0.heap.size < wr.heap.size := hj.lt
      have hox := Lib.hid (Ex.okc (hgd.kids x hmem).exs)
      have hone1 := Lib.hid (fun t W hW hT hlen => wexpr_any W0 hT0 x (hgd.kids x hmem) (hgg x hmem) t W hW hT hlen)
      have hjh := Lib.hid hj
      replace htk := Lib.hid htk
      replace hle := Lib.hid hle
      clear hx hxc hj
      obtain ⟨T, hTT⟩ : ∃ T, (t ++ txT e.pat) ++ ((e.guard.take i).map (fun g => [32, 119, 104, 101, 110, 32] ++ txE g)).flatten = T := ⟨_, rfl⟩
      have hTh := Lib.hid hTT
      rw [hTT] at hjh
      have hle2 := Lib.hid (show (T ++ ((fun g => [32, 119, 104, 101, 110, 32] ++ txE g) x)).length ≤ 140737488355328 by rw [← hTT, List.append_assoc]; exact hle.out)
      clear hTT
      go_wp2_with (first
        | (refine wpList_store_new' rfl 36 (.tmp 5) (.tmp 16) rfl _ x.cells.toArray _ rfl rfl (show (Tryd.prog.info? 36).map (·.size) = some 5 by kernel_rfl) rfl hox.out ?_; obtain ⟨W5, hW5⟩ : ∃ W5, wr.alloc (.cells x.cells.toArray 36) = W5 := ⟨_, rfl⟩; have b5 : W5.heap[wr.heap.size]? = some (.cells x.cells.toArray 36 (0, 0)) := (by rw [← hW5]; exact new_blk _ _ rfl); have n5 : Nb wr W5 := (by rw [← hW5]; exact alloc_nb _ _); have z5 := n5.size; rw [hW5]; clear hW5)
        | (refine wpList_load_row rfl 36 (.tmp 5) rfl wr.heap.size rfl 36 x.cells.toArray (0, 0) _ b7 Tryd.underlying36 rfl (show (Tryd.prog.info? 36).map (·.size) = some 5 by kernel_rfl) ?_)
        | (go_at_call 54; refine (put_any W0 T [[32, 119, 104, 101, 110, 32]] _ (hjh.out.nb (n5.trans (alloc_nb _ _))) _ (new_blk _ _ rfl) (by omega) 1 (Nat.le_refl _) (by simp) (by have := hle2.out; simp only [List.flatten_cons, List.flatten_nil, List.append_nil, List.length_append] at this ⊢; omega)).mono ?_; rintro r w7 ⟨rfl, hj7, hp7⟩; have b7 := hp7.block (old_blk b5 _) (by omega) (by decide); have hnb7 := Pk.nb (hnbh.out.trans (n5.trans (alloc_nb _ _))) hp7)
        | (go_at_call 69; refine (hone1.out _ _ hnb7 hj7 (by have := hle2.out; simp only [List.flatten_cons, List.flatten_nil, List.append_nil, List.length_append] at this ⊢; omega)).mono ?_; rintro r w6 ⟨rfl, hj6, hp6⟩))
      exact ⟨⟨i + 1, by omega, by simp, by rw [htk.out, ← List.append_assoc, hTh.out]; simpa only [List.flatten_cons, List.flatten_nil, List.append_nil, List.append_assoc] using hj6, hp.trans ((Pk.of_nb (Nat.le_of_lt hlt4) (n5.trans (alloc_nb _ _))).trans (hp7.trans hp6))⟩, by simp [intOf] <;> omega⟩
    · obtain rfl : i = M := by omega
      have hall : ((e.guard.take i).map (fun g => [32, 119, 104, 101, 110, 32] ++ txE g)).flatten = (e.guard.map (fun g => [32, 119, 104, 101, 110, 32] ++ txE g)).flatten := by rw [← hMh.out, List.take_length]
      rw [hall] at hj
      clear hMh hpre
      have bq := hp.block b2 (by omega) (by decide)
      have qq : Pk W0 W wr := q2.trans hp
      have y0 := cell_of_row _ _ 0 _ _ _ bq
      have y1 := cell_of_row _ _ 1 _ _ _ bq
      have y2 := cell_of_row _ _ 2 _ _ _ bq
      have y3 := cell_of_row _ _ 3 _ _ _ bq
      have y4 := cell_of_row _ _ 4 _ _ _ bq
      have y5 := cell_of_row _ _ 5 _ _ _ bq
      have y6 := cell_of_row _ _ 6 _ _ _ bq
      have y7 := cell_of_row _ _ 7 _ _ _ bq
      have y8 := cell_of_row _ _ 8 _ _ _ bq
      have y9 := cell_of_row _ _ 9 _ _ _ bq
      have y10 := cell_of_row _ _ 10 _ _ _ bq
      have y11 := cell_of_row _ _ 11 _ _ _ bq
      have y12 := cell_of_row _ _ 12 _ _ _ bq
      have y13 := cell_of_row _ _ 13 _ _ _ bq
      have y14 := cell_of_row _ _ 14 _ _ _ bq
      go_wp2_with fail
      refine (put_any W0 ((t ++ txT e.pat) ++ (e.guard.map (fun g => [32, 119, 104, 101, 110, 32] ++ txE g)).flatten) [[32]] _ (hj.nb (alloc_nb _ _)) _ (new_blk _ _ rfl) (by have := hj.lt; omega) 1 (Nat.le_refl _) (by simp) (by have h := hlen.out; simp only [List.flatten_cons, List.flatten_nil, List.append_nil, List.length_append] at h ⊢; omega)).mono ?_
      rintro r W3 ⟨rfl, hT3, p3⟩
      have hA3 := Pk.nb (hnb.trans (alloc_nb _ _)) p3
      have b3 := p3.block (old_blk bq _) (by omega) (by decide)
      have q3 : Pk W0 W W3 := qq.trans ((Pk.of_nb (Nat.le_of_lt hj.lt) (alloc_nb _ _)).trans p3)
      have y0 := cell_of_row _ _ 0 _ _ _ b3
      have y1 := cell_of_row _ _ 1 _ _ _ b3
      have y2 := cell_of_row _ _ 2 _ _ _ b3
      have y3 := cell_of_row _ _ 3 _ _ _ b3
      have y4 := cell_of_row _ _ 4 _ _ _ b3
      have y5 := cell_of_row _ _ 5 _ _ _ b3
      have y6 := cell_of_row _ _ 6 _ _ _ b3
      have y7 := cell_of_row _ _ 7 _ _ _ b3
      have y8 := cell_of_row _ _ 8 _ _ _ b3
      have y9 := cell_of_row _ _ 9 _ _ _ b3
      have y10 := cell_of_row _ _ 10 _ _ _ b3
      have y11 := cell_of_row _ _ 11 _ _ _ b3
      have y12 := cell_of_row _ _ 12 _ _ _ b3
      have y13 := cell_of_row _ _ 13 _ _ _ b3
      have y14 := cell_of_row _ _ 14 _ _ _ b3
      go_wp2_with fail
      refine (hb.out (((t ++ txT e.pat) ++ (e.guard.map (fun g => [32, 119, 104, 101, 110, 32] ++ txE g)).flatten) ++ [[32]].flatten) W3 hA3 hT3 (by have h := hlen.out; simp only [List.flatten_cons, List.flatten_nil, List.append_nil, List.length_append] at h ⊢; omega)).mono ?_
      rintro r W4 ⟨rfl, hT4, p4⟩
      have hA4 := Pk.nb hA3 p4
      have b4 := p4.block b3 (by omega) (by decide)
      have q4 : Pk W0 W W4 := q3.trans (p4)
      go_wp2_with fail
      go_end0
      refine ⟨rfl, ?_, q4⟩
      rw [hX.out]
      simpa only [List.flatten_cons, List.flatten_nil, List.append_nil, List.append_assoc] using hT4
end Go.Proofs.YtojogolmcclpoaaDoor
