/-
  Proved here: of the code: laying a program. Conditions: stated.
-/
import Derived.Test.YtojogolmcclpoaaDoorSbc
import Derived.Test.YtojogolmcclpoaaDoorSbd
import Derived.Test.YtojogolmcclpoaaDoorSal
namespace Go.Proofs.YtojogolmcclpoaaDoor
open Go.RowKit Go.Shelf
set_option linter.unusedVariables false
set_option linter.unusedSimpArgs false
set_option maxRecDepth 100000
set_option maxHeartbeats 4000000
attribute [-go_sem] run_eql_struct
theorem wbody_all (W0 : World) (hT0 : Tw W0) : ∀ b : Bd, b.Has W0 → gB b = true → CB W0 b := by
  intro b
  induction b using Bd.ind
  rename_i b ihp iha
  intro he hg
  have hg0 := hg
  rw [gB_eq] at hg
  simp only [Bool.and_eq_true] at hg
  obtain ⟨-, -, -, hgp, hga⟩ := hg
  rw [gBs_all, List.all_eq_true] at hgp
  rw [gAs_all, List.all_eq_true] at hga
  have he0 := he
  cases he with
  | mk srow skids args prow pkids mrow mpat mguard mbody ac af =>
    refine wbody_one W0 hT0 b he0 hg0 (fun m hm t W hW hT hl => ?_) (fun x hx => ihp x hx (pkids x hx) (hgp x hx)) (fun m hm => Am.okc (mpat m hm) (mguard m hm) (mbody m hm)) (fun x hx => Bd.okc (pkids x hx))
    have gm := hga m hm
    rw [gA_eq] at gm
    simp only [Bool.and_eq_true] at gm
    exact warm_any W0 hT0 m (mpat m hm) (mguard m hm) (iha m hm (mbody m hm) gm.2.2.2) (hga m hm) t W hW hT hl
theorem wdef_any (W0 : World) (hT0 : Tw W0) (e : Df) (hp : RowS W0 1 e.pv (e.params.map fun s => [sV s])) (hb : e.body.Has W0) (hg : gD e = true) (t : Bs) (W : World) (hW : Nb W0 W) (hT : Wr W0 t W) (hlen : (t ++ txD e).length ≤ 140737488355328) :
    Calls Tryd.prog 53 #[.pointer (some ⟨W0.heap.size, 0, none⟩), .agg e.cells.toArray] W (Lays W0 t (txD e) W) := by
  unfold gD at hg
  simp only [Bool.and_eq_true] at hg
  obtain ⟨-, -, hgb⟩ := hg
  have hlt := hT.lt
  have hc : e.cells = [.int .i64 e.at_, sV e.name, e.pv, e.body.sv, .int .i64 e.body.kind, .int .i64 e.body.at_, sV e.body.actor, e.body.av, e.body.pv, e.body.mv, .bool e.body.late, .int .i64 e.body.after] := rfl
  obtain ⟨X, hX2⟩ : ∃ X, txD e = X := ⟨_, rfl⟩
  have hX := hX2.symm
  rw [hX2] at hlen ⊢
  clear hX2
  unfold txD at hX
  rw [hX] at hlen
  rw [hc]
  clear hc
  replace hX := Lib.hid hX
  replace hlen := Lib.hid hlen
  have hps := Lib.hid (fun t W hW hT hlen => listM_any W0 e.params e.pv hp t W hW hT hlen)
  have hbd := Lib.hid (wbody_all W0 hT0 e.body hb hgb)
  go_enter Tryd.func53, Tryd.ntmps53
  go_upto_region 1 with (fail)
  obtain ⟨W1, hW1⟩ : ∃ W1, W.alloc (.cells #[.int .i64 e.at_, sV e.name, e.pv, e.body.sv, .int .i64 e.body.kind, .int .i64 e.body.at_, sV e.body.actor, e.body.av, e.body.pv, e.body.mv, .bool e.body.late, .int .i64 e.body.after] 46) = W1 := ⟨_, rfl⟩
  have b1 : W1.heap[W.heap.size]? = some (.cells #[.int .i64 e.at_, sV e.name, e.pv, e.body.sv, .int .i64 e.body.kind, .int .i64 e.body.at_, sV e.body.actor, e.body.av, e.body.pv, e.body.mv, .bool e.body.late, .int .i64 e.body.after] 46 (0, 0)) := by rw [← hW1]; exact new_blk _ _ rfl
  have n1 : Nb W W1 := by rw [← hW1]; exact alloc_nb _ _
  rw [hW1]
  have hT1 := hT.nb n1
  have hA1 := hW.trans n1
  have q1 : Pk W0 W W1 := Pk.of_nb (Nat.le_of_lt hlt) n1
  clear hW1 n1
  have y0 := cell_of_row _ _ 0 _ _ _ b1
  have y1 := cell_of_row _ _ 1 _ _ _ b1
  have y2 := cell_of_row _ _ 2 _ _ _ b1
  have y3 := cell_of_row _ _ 3 _ _ _ b1
  have y4 := cell_of_row _ _ 4 _ _ _ b1
  have y5 := cell_of_row _ _ 5 _ _ _ b1
  have y6 := cell_of_row _ _ 6 _ _ _ b1
  have y7 := cell_of_row _ _ 7 _ _ _ b1
  have y8 := cell_of_row _ _ 8 _ _ _ b1
  have y9 := cell_of_row _ _ 9 _ _ _ b1
  have y10 := cell_of_row _ _ 10 _ _ _ b1
  have y11 := cell_of_row _ _ 11 _ _ _ b1
  go_wp2_with fail
  refine (put_any W0 t [[97, 99, 116, 111, 114, 32], e.name, [40]] _ (hT1.nb (alloc_nb _ _)) _ (new_blk _ _ rfl) (by have := hT1.lt; omega) 3 (Nat.le_refl _) (by simp) (by have h := hlen.out; simp only [List.flatten_cons, List.flatten_nil, List.append_nil, List.length_append] at h ⊢; omega)).mono ?_
  rintro r W2 ⟨rfl, hT2, p2⟩
  have hA2 := Pk.nb (hA1.trans (alloc_nb _ _)) p2
  have b2 := p2.block (old_blk b1 _) (by omega) (by decide)
  have q2 : Pk W0 W W2 := q1.trans ((Pk.of_nb (Nat.le_of_lt hT1.lt) (alloc_nb _ _)).trans p2)
  have y0 := cell_of_row _ _ 0 _ _ _ b2
  have y1 := cell_of_row _ _ 1 _ _ _ b2
  have y2 := cell_of_row _ _ 2 _ _ _ b2
  have y3 := cell_of_row _ _ 3 _ _ _ b2
  have y4 := cell_of_row _ _ 4 _ _ _ b2
  have y5 := cell_of_row _ _ 5 _ _ _ b2
  have y6 := cell_of_row _ _ 6 _ _ _ b2
  have y7 := cell_of_row _ _ 7 _ _ _ b2
  have y8 := cell_of_row _ _ 8 _ _ _ b2
  have y9 := cell_of_row _ _ 9 _ _ _ b2
  have y10 := cell_of_row _ _ 10 _ _ _ b2
  have y11 := cell_of_row _ _ 11 _ _ _ b2
  go_wp2_with fail
  refine (hps.out (t ++ [[97, 99, 116, 111, 114, 32], e.name, [40]].flatten) W2 hA2 hT2 (by have h := hlen.out; simp only [List.flatten_cons, List.flatten_nil, List.append_nil, List.length_append] at h ⊢; omega)).mono ?_
  rintro r W3 ⟨rfl, hT3, p3⟩
  have hA3 := Pk.nb hA2 p3
  have b3 := p3.block b2 (by omega) (by decide)
  have q3 : Pk W0 W W3 := q2.trans (p3)
  have y0 := cell_of_row _ _ 0 _ _ _ b3
  have y1 := cell_of_row _ _ 1 _ _ _ b3
  have y2 := cell_of_row _ _ 2 _ _ _ b3
  have y3 := cell_of_row _ _ 3 _ _ _ b3
  have y4 := cell_of_row _ _ 4 _ _ _ b3
  have y5 := cell_of_row _ _ 5 _ _ _ b3
  have y6 := cell_of_row _ _ 6 _ _ _ b3
  have y7 := cell_of_row _ _ 7 _ _ _ b3
  have y8 := cell_of_row _ _ 8 _ _ _ b3
  have y9 := cell_of_row _ _ 9 _ _ _ b3
  have y10 := cell_of_row _ _ 10 _ _ _ b3
  have y11 := cell_of_row _ _ 11 _ _ _ b3
  go_wp2_with fail
  refine (put_any W0 ((t ++ [[97, 99, 116, 111, 114, 32], e.name, [40]].flatten) ++ jnT e.params) [[41, 32]] _ (hT3.nb (alloc_nb _ _)) _ (new_blk _ _ rfl) (by have := hT3.lt; omega) 1 (Nat.le_refl _) (by simp) (by have h := hlen.out; simp only [List.flatten_cons, List.flatten_nil, List.append_nil, List.length_append] at h ⊢; omega)).mono ?_
  rintro r W4 ⟨rfl, hT4, p4⟩
  have hA4 := Pk.nb (hA3.trans (alloc_nb _ _)) p4
  have b4 := p4.block (old_blk b3 _) (by omega) (by decide)
  have q4 : Pk W0 W W4 := q3.trans ((Pk.of_nb (Nat.le_of_lt hT3.lt) (alloc_nb _ _)).trans p4)
  have y0 := cell_of_row _ _ 0 _ _ _ b4
  have y1 := cell_of_row _ _ 1 _ _ _ b4
  have y2 := cell_of_row _ _ 2 _ _ _ b4
  have y3 := cell_of_row _ _ 3 _ _ _ b4
  have y4 := cell_of_row _ _ 4 _ _ _ b4
  have y5 := cell_of_row _ _ 5 _ _ _ b4
  have y6 := cell_of_row _ _ 6 _ _ _ b4
  have y7 := cell_of_row _ _ 7 _ _ _ b4
  have y8 := cell_of_row _ _ 8 _ _ _ b4
  have y9 := cell_of_row _ _ 9 _ _ _ b4
  have y10 := cell_of_row _ _ 10 _ _ _ b4
  have y11 := cell_of_row _ _ 11 _ _ _ b4
  go_wp2_with fail
  refine (hbd.out (((t ++ [[97, 99, 116, 111, 114, 32], e.name, [40]].flatten) ++ jnT e.params) ++ [[41, 32]].flatten) W4 hA4 hT4 (by have h := hlen.out; simp only [List.flatten_cons, List.flatten_nil, List.append_nil, List.length_append] at h ⊢; omega)).mono ?_
  rintro r W5 ⟨rfl, hT5, p5⟩
  have hA5 := Pk.nb hA4 p5
  have b5 := p5.block b4 (by omega) (by decide)
  have q5 : Pk W0 W W5 := q4.trans (p5)
  have y0 := cell_of_row _ _ 0 _ _ _ b5
  have y1 := cell_of_row _ _ 1 _ _ _ b5
  have y2 := cell_of_row _ _ 2 _ _ _ b5
  have y3 := cell_of_row _ _ 3 _ _ _ b5
  have y4 := cell_of_row _ _ 4 _ _ _ b5
  have y5 := cell_of_row _ _ 5 _ _ _ b5
  have y6 := cell_of_row _ _ 6 _ _ _ b5
  have y7 := cell_of_row _ _ 7 _ _ _ b5
  have y8 := cell_of_row _ _ 8 _ _ _ b5
  have y9 := cell_of_row _ _ 9 _ _ _ b5
  have y10 := cell_of_row _ _ 10 _ _ _ b5
  have y11 := cell_of_row _ _ 11 _ _ _ b5
  go_wp2_with fail
  refine (put_any W0 ((((t ++ [[97, 99, 116, 111, 114, 32], e.name, [40]].flatten) ++ jnT e.params) ++ [[41, 32]].flatten) ++ txB e.body) [[10]] _ (hT5.nb (alloc_nb _ _)) _ (new_blk _ _ rfl) (by have := hT5.lt; omega) 1 (Nat.le_refl _) (by simp) (by have h := hlen.out; simp only [List.flatten_cons, List.flatten_nil, List.append_nil, List.length_append] at h ⊢; omega)).mono ?_
  rintro r W6 ⟨rfl, hT6, p6⟩
  have hA6 := Pk.nb (hA5.trans (alloc_nb _ _)) p6
  have b6 := p6.block (old_blk b5 _) (by omega) (by decide)
  have q6 : Pk W0 W W6 := q5.trans ((Pk.of_nb (Nat.le_of_lt hT5.lt) (alloc_nb _ _)).trans p6)
  go_wp2_with fail
  go_end0
  refine ⟨rfl, ?_, q6⟩
  rw [hX.out]
  simpa only [List.flatten_cons, List.flatten_nil, List.append_nil, List.nil_append, List.append_assoc] using hT6
theorem wprog_any (W0 : World) (hT0 : Tw W0) (e : Pg) (he : e.Has W0) (hg : gP e = true) (t : Bs) (W : World) (hW : Nb W0 W) (hT : Wr W0 t W) (hlen : (t ++ txP e).length ≤ 140737488355328) :
    Calls Tryd.prog 15 #[.pointer (some ⟨W0.heap.size, 0, none⟩), .agg e.cells.toArray] W (Lays W0 t (txP e) W) := by
  unfold gP at hg
  simp only [Bool.and_eq_true] at hg
  obtain ⟨-, hgd, hgs⟩ := hg
  rw [List.all_eq_true] at hgd
  have hlt := hT.lt
  have hrow := he.drow
  obtain ⟨A0, cap0, hv0, hcap, hlq, -⟩ := hrow.head
  rw [List.length_map] at hv0 hlq
  have hc : e.cells = [.slice A0 e.defs.length cap0, .int .i64 e.at_, sV e.main, e.av] := by
    rw [← hv0]; rfl
  rw [hv0] at hrow
  obtain ⟨X, hX2⟩ : ∃ X, txP e = X := ⟨_, rfl⟩
  have hX := hX2.symm
  rw [hX2] at hlen ⊢
  clear hX2
  unfold txP at hX
  rw [txDs_map] at hX
  rw [hX] at hlen
  rw [hc]
  clear hc
  replace hX := Lib.hid hX
  replace hlen := Lib.hid hlen
  have hac := Lib.hid (fun t W hW hT hlen => wactor_any W0 hT0 e.main e.args e.av he.args hgs t W hW hT hlen)
  go_enter Tryd.func15, Tryd.ntmps15
  go_upto_region 1 with (fail)
  obtain ⟨W1, hW1⟩ : ∃ W1, W.alloc (.cells #[.slice A0 e.defs.length cap0, .int .i64 e.at_, sV e.main, e.av] 25) = W1 := ⟨_, rfl⟩
  have b1 : W1.heap[W.heap.size]? = some (.cells #[.slice A0 e.defs.length cap0, .int .i64 e.at_, sV e.main, e.av] 25 (0, 0)) := by rw [← hW1]; exact new_blk _ _ rfl
  have n1 : Nb W W1 := by rw [← hW1]; exact alloc_nb _ _
  rw [hW1]
  have hT1 := hT.nb n1
  have hA1 := hW.trans n1
  have q1 : Pk W0 W W1 := Pk.of_nb (Nat.le_of_lt hlt) n1
  clear hW1 n1
  have y0 := cell_of_row _ _ 0 _ _ _ b1
  have y1 := cell_of_row _ _ 1 _ _ _ b1
  have y2 := cell_of_row _ _ 2 _ _ _ b1
  have y3 := cell_of_row _ _ 3 _ _ _ b1
  go_wp2_with fail
  obtain ⟨M, hM⟩ : ∃ M, e.defs.length = M := ⟨_, rfl⟩
  have hMh := Lib.hid hM
  rw [hM] at hlq ⊢
  clear hM
  have hpre := Lib.hid hlen.out
  go_loopw [9] (fun si wr => ∃ i : Nat, i ≤ M ∧ si = .int .i64 i ∧ Wr W0 (t ++ ((e.defs.take i).map txD).flatten) wr ∧ Pk W0 W1 wr) (fun si _ => M - (intOf si).toNat)
  case atStart => exact ⟨0, Nat.zero_le _, rfl, by simpa using hT1, Pk.refl _ _⟩
  case round =>
    obtain ⟨i, hi2, rfl, hj, hp⟩ := hrel
    have hnb : Nb W0 wr := Pk.nb hA1 hp
    by_cases hlt2 : i < M
    · have hlt3 : (i : Int) < (M : Int) := by omega
      obtain ⟨x, hx⟩ : ∃ x, e.defs[i]? = some x := ⟨_, List.getElem?_eq_getElem (by rw [hMh.out]; exact hlt2)⟩
      obtain ⟨b, o, hbo, hxc⟩ := RowS.at_ hrow (i := i) (r := x.cells) (by rw [List.getElem?_map, hx]; rfl)
      obtain rfl := hbo
      have x0 := hnb.cell (hxc 0 _ rfl)
      have x1 := hnb.cell (hxc 1 _ rfl)
      have x2 := hnb.cell (hxc 2 _ rfl)
      have x3 := hnb.cell (hxc 3 _ rfl)
      have x4 := hnb.cell (hxc 4 _ rfl)
      have x5 := hnb.cell (hxc 5 _ rfl)
      have x6 := hnb.cell (hxc 6 _ rfl)
      have x7 := hnb.cell (hxc 7 _ rfl)
      have x8 := hnb.cell (hxc 8 _ rfl)
      have x9 := hnb.cell (hxc 9 _ rfl)
      have x10 := hnb.cell (hxc 10 _ rfl)
      have x11 := hnb.cell (hxc 11 _ rfl)
      rw [Nat.add_zero] at x0
      have htk := flat_take txD e.defs i x hx
      have hle : (t ++ (((e.defs.take i).map txD).flatten ++ (txD x))).length ≤ 140737488355328 := by
        have h1 := hlen.out
        have h2 := flat_le txD e.defs (i + 1)
        rw [htk] at h2
        simp only [List.flatten_cons, List.flatten_nil, List.append_nil, List.length_append] at h1 h2 ⊢
        omega
      have hmem := List.mem_of_getElem? hx
      have hnbh := Lib.hid hnb
      have hlt4 : W0.heap.size < wr.heap.size := hj.lt
      have hox := Lib.hid (Df.okc (he.prow x hmem) (he.body x hmem))
      have hone1 := Lib.hid (fun t W hW hT hlen => wdef_any W0 hT0 x (he.prow x hmem) (he.body x hmem) (hgd x hmem) t W hW hT hlen)
      have hjh := Lib.hid hj
      replace htk := Lib.hid htk
      replace hle := Lib.hid hle
      clear hx hxc hj
      obtain ⟨T, hTT⟩ : ∃ T, t ++ ((e.defs.take i).map txD).flatten = T := ⟨_, rfl⟩
      have hTh := Lib.hid hTT
      rw [hTT] at hjh
      have hle2 := Lib.hid (show (T ++ (txD x)).length ≤ 140737488355328 by rw [← hTT, List.append_assoc]; exact hle.out)
      clear hTT
      go_wp2_with (first
        | (refine wpList_store_new' rfl 46 (.tmp 5) (.tmp 12) rfl _ x.cells.toArray _ rfl rfl (show (Tryd.prog.info? 46).map (·.size) = some 12 by kernel_rfl) rfl hox.out ?_; obtain ⟨W5, hW5⟩ : ∃ W5, wr.alloc (.cells x.cells.toArray 46) = W5 := ⟨_, rfl⟩; have b5 : W5.heap[wr.heap.size]? = some (.cells x.cells.toArray 46 (0, 0)) := (by rw [← hW5]; exact new_blk _ _ rfl); have n5 : Nb wr W5 := (by rw [← hW5]; exact alloc_nb _ _); have z5 := n5.size; rw [hW5]; clear hW5)
        | (refine wpList_load_row rfl 46 (.tmp 5) rfl wr.heap.size rfl 46 x.cells.toArray (0, 0) _ b5 Tryd.underlying46 rfl (show (Tryd.prog.info? 46).map (·.size) = some 12 by kernel_rfl) ?_)
        | (go_at_call 53; refine (hone1.out T _ (hnbh.out.trans n5) (hjh.out.nb n5) (by have := hle2.out; simp only [List.flatten_cons, List.flatten_nil, List.append_nil, List.length_append] at this ⊢; omega)).mono ?_; rintro r w6 ⟨rfl, hj6, hp6⟩))
      exact ⟨⟨i + 1, by omega, by simp, by rw [htk.out, ← List.append_assoc, hTh.out]; simpa only [List.flatten_cons, List.flatten_nil, List.append_nil, List.append_assoc] using hj6, hp.trans ((Pk.of_nb (Nat.le_of_lt hlt4) n5).trans hp6)⟩, by simp [intOf] <;> omega⟩
    · obtain rfl : i = M := by omega
      have hall : ((e.defs.take i).map txD).flatten = (e.defs.map txD).flatten := by rw [← hMh.out, List.take_length]
      rw [hall] at hj
      clear hMh hpre
      have bq := hp.block b1 (by omega) (by decide)
      have qq : Pk W0 W wr := q1.trans hp
      have y0 := cell_of_row _ _ 0 _ _ _ bq
      have y1 := cell_of_row _ _ 1 _ _ _ bq
      have y2 := cell_of_row _ _ 2 _ _ _ bq
      have y3 := cell_of_row _ _ 3 _ _ _ bq
      go_wp2_with fail
      refine (put_any W0 (t ++ (e.defs.map txD).flatten) [[109, 97, 105, 110, 32]] _ (hj.nb (alloc_nb _ _)) _ (new_blk _ _ rfl) (by have := hj.lt; omega) 1 (Nat.le_refl _) (by simp) (by have h := hlen.out; simp only [List.flatten_cons, List.flatten_nil, List.append_nil, List.length_append] at h ⊢; omega)).mono ?_
      rintro r W2 ⟨rfl, hT2, p2⟩
      have hA2 := Pk.nb (hnb.trans (alloc_nb _ _)) p2
      have b2 := p2.block (old_blk bq _) (by omega) (by decide)
      have q2 : Pk W0 W W2 := qq.trans ((Pk.of_nb (Nat.le_of_lt hj.lt) (alloc_nb _ _)).trans p2)
      have y0 := cell_of_row _ _ 0 _ _ _ b2
      have y1 := cell_of_row _ _ 1 _ _ _ b2
      have y2 := cell_of_row _ _ 2 _ _ _ b2
      have y3 := cell_of_row _ _ 3 _ _ _ b2
      go_wp2_with fail
      refine (hac.out ((t ++ (e.defs.map txD).flatten) ++ [[109, 97, 105, 110, 32]].flatten) W2 hA2 hT2 (by have h := hlen.out; simp only [List.flatten_cons, List.flatten_nil, List.append_nil, List.length_append] at h ⊢; omega)).mono ?_
      rintro r W3 ⟨rfl, hT3, p3⟩
      have hA3 := Pk.nb hA2 p3
      have b3 := p3.block b2 (by omega) (by decide)
      have q3 : Pk W0 W W3 := q2.trans (p3)
      have y0 := cell_of_row _ _ 0 _ _ _ b3
      have y1 := cell_of_row _ _ 1 _ _ _ b3
      have y2 := cell_of_row _ _ 2 _ _ _ b3
      have y3 := cell_of_row _ _ 3 _ _ _ b3
      go_wp2_with fail
      refine (put_any W0 (((t ++ (e.defs.map txD).flatten) ++ [[109, 97, 105, 110, 32]].flatten) ++ acT e.main e.args) [[10]] _ (hT3.nb (alloc_nb _ _)) _ (new_blk _ _ rfl) (by have := hT3.lt; omega) 1 (Nat.le_refl _) (by simp) (by have h := hlen.out; simp only [List.flatten_cons, List.flatten_nil, List.append_nil, List.length_append] at h ⊢; omega)).mono ?_
      rintro r W4 ⟨rfl, hT4, p4⟩
      have hA4 := Pk.nb (hA3.trans (alloc_nb _ _)) p4
      have b4 := p4.block (old_blk b3 _) (by omega) (by decide)
      have q4 : Pk W0 W W4 := q3.trans ((Pk.of_nb (Nat.le_of_lt hT3.lt) (alloc_nb _ _)).trans p4)
      go_wp2_with fail
      go_end0
      refine ⟨rfl, ?_, q4⟩
      rw [hX.out]
      simpa only [List.flatten_cons, List.flatten_nil, List.append_nil, List.nil_append, List.append_assoc] using hT4
end Go.Proofs.YtojogolmcclpoaaDoor
