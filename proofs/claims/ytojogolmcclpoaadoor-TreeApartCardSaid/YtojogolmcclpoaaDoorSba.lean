/-
  Proved here: of the code: laying names, an actor, a statement. Conditions: stated.
-/
import Derived.Test.YtojogolmcclpoaaDoorSaz
namespace Go.Proofs.YtojogolmcclpoaaDoor
open Go.RowKit Go.Shelf
set_option linter.unusedVariables false
set_option linter.unusedSimpArgs false
set_option maxRecDepth 100000
set_option maxHeartbeats 4000000
attribute [-go_sem] run_eql_struct
theorem wname_any (W0 : World) (s : Bs) (t : Bs) (W : World) (hW : Nb W0 W) (hT : Wr W0 t W) (hlen : (t ++ s).length ≤ 140737488355328) :
    Calls Tryd.prog 65 #[.pointer (some ⟨W0.heap.size, 0, none⟩), sV s] W (Lays W0 t s W) := by
  obtain ⟨X, hX⟩ : ∃ X, s = X := ⟨_, rfl⟩
  replace hX := Lib.hid hX.symm
  replace hlen := Lib.hid hlen
  go_enter Tryd.func65, Tryd.ntmps65
  go_wp2_with fail
  refine (put_any W0 t [s] _ (hT.nb (alloc_nb _ _)) _ (new_blk _ _ rfl) (by have := hT.lt; omega) 1 (Nat.le_refl _) (by simp) (by have h := hlen.out; simp only [List.flatten_cons, List.flatten_nil, List.append_nil, List.length_append] at h ⊢; omega)).mono ?_
  rintro r W1 ⟨rfl, hT1, p1⟩
  have hA1 := Pk.nb (hW.trans (alloc_nb _ _)) p1
  have q1 : Pk W0 W W1 := (Pk.of_nb (Nat.le_of_lt hT.lt) (alloc_nb _ _)).trans p1
  go_wp2_with fail
  go_end0
  exact ⟨rfl, by simpa using hT1, q1⟩
theorem listM_any (W0 : World) (l : List Bs) (v : Value) (hrow : RowS W0 1 v (l.map fun s => [sV s])) (t : Bs) (W : World) (hW : Nb W0 W) (hT : Wr W0 t W) (hlen : (t ++ jnT l).length ≤ 140737488355328) :
    Calls Tryd.prog 64 #[.pointer (some ⟨W0.heap.size, 0, none⟩), v, .func (.func 65) #[.pointer (some ⟨W0.heap.size, 0, none⟩)] #[]] W (Lays W0 t (jnT l) W) := by
  obtain ⟨A, cap, rfl, hcap, hlenr, hz⟩ := hrow.head
  have hX := Lib.hid hrow
  rw [List.length_map] at hcap hlenr hX ⊢
  obtain ⟨M, hM⟩ : ∃ M, l.length = M := ⟨_, rfl⟩
  have hMh := Lib.hid hM
  rw [hM] at hcap hlenr hX ⊢
  clear hM hrow
  have hlenh := Lib.hid hlen
  clear hlen
  go_enter Tryd.func64, Tryd.ntmps64
  go_wp2_with fail
  go_loopw [10] (fun si wr => ∃ i : Nat, i ≤ M ∧ si = .int .i64 i ∧ Wr W0 (t ++ jnT (l.take i)) wr ∧ Pk W0 W wr) (fun si _ => M - (intOf si).toNat)
  case atStart => exact ⟨0, Nat.zero_le _, rfl, by simpa [jnT] using hT, Pk.refl _ _⟩
  case round =>
    obtain ⟨i, hi2, rfl, hj, hp⟩ := hrel
    by_cases hlt2 : i < M
    · have hlt3 : (i : Int) < (M : Int) := by omega
      obtain ⟨x, hx⟩ : ∃ x, l[i]? = some x := ⟨_, List.getElem?_eq_getElem (by rw [hMh.out]; exact hlt2)⟩
      obtain ⟨b, o, rfl, hxc⟩ := hX.out.at_ (i := i) (r := [sV x]) (by rw [List.getElem?_map, hx]; rfl)
      have hnb : Nb W0 wr := Pk.nb hW hp
      have y0 := hnb.cell (hxc 0 _ rfl)
      rw [Nat.add_zero, Nat.mul_one] at y0
      have htk := jnT_take l i _ hx
      have hle : (t ++ (jnT (l.take i) ++ sepT i x)).length ≤ 140737488355328 := by
        have h1 := hlenh.out
        have h2 := jnT_le l (i + 1)
        rw [htk] at h2
        rw [List.length_append] at h1 ⊢
        omega
      have hnbh := Lib.hid hnb
      have hlt4 : W0.heap.size < wr.heap.size := hj.lt
      have hjh := Lib.hid hj
      clear hx hxc hj
      by_cases h0 : i = 0
      · have h5 : ¬ (0 : Int) < (i : Int) := by omega
        rw [show sepT i x = x from by rw [sepT, if_pos h0]; rfl] at htk hle
        have htk := Lib.hid htk
        have hle := Lib.hid hle
        obtain rfl := h0
        simp only [Nat.add_zero] at y0
        go_wp2_with (go_at_call 65; refine (wname_any W0 x (t ++ jnT (l.take 0)) _ hnbh.out hjh.out (by rw [List.append_assoc]; exact hle.out)).mono ?_; rintro r w6 ⟨rfl, hj6, hp6⟩)
        exact ⟨⟨0 + 1, by omega, by simp, by rw [htk.out, ← List.append_assoc]; exact hj6, hp.trans hp6⟩, by simp [intOf] <;> omega⟩
      · have h5 : (0 : Int) < (i : Int) := by omega
        rw [show sepT i x = [44, 32] ++ x from by rw [sepT, if_neg h0]] at htk hle
        have htk := Lib.hid htk
        have hle := Lib.hid hle
        have hput := Lib.hid (fun W6 (h6 : Wr W0 (t ++ jnT (l.take i)) W6) (k : Nat) (hk : W6.heap[k]? = some (.cells #[.string ⟨#[44, 32]⟩] 9 (0, 0))) (hne : k ≠ W0.heap.size) => put_any W0 (t ++ jnT (l.take i)) [[44, 32]] W6 h6 k hk hne 1 (Nat.le_refl _) (by decide) (by have := hle.out; simp only [List.flatten_cons, List.flatten_nil, List.append_nil, List.length_append] at this ⊢; omega))
        go_wp2_with (first
          | (go_at_call 54; refine (hput.out _ (hjh.out.nb (alloc_nb _ _)) _ (new_blk _ _ rfl) (by omega)).mono ?_; rintro r w7 ⟨rfl, hj7, hp7⟩; have hnb7 := Pk.nb (hnbh.out.trans (alloc_nb _ _)) hp7)
          | (go_at_call 65; refine (wname_any W0 x _ _ hnb7 hj7 (by have := hle.out; simp only [List.flatten_cons, List.flatten_nil, List.append_nil, List.length_append] at this ⊢; omega)).mono ?_; rintro r w6 ⟨rfl, hj6, hp6⟩))
        refine ⟨⟨i + 1, by omega, by simp, ?_, hp.trans ((Pk.of_nb (Nat.le_of_lt hlt4) (alloc_nb _ _)).trans (hp7.trans hp6))⟩, by simp [intOf] <;> omega⟩
        rw [htk.out]
        simpa only [List.flatten_cons, List.flatten_nil, List.append_nil, List.append_assoc] using hj6
    · obtain rfl : i = M := by omega
      have hall : jnT (l.take i) = jnT l := by rw [List.take_of_length_le (by rw [hMh.out]; exact Nat.le_refl _)]
      rw [hall] at hj
      go_wp2_with fail
      go_end0
      exact ⟨rfl, hj, hp⟩
theorem wactor_any (W0 : World) (hT0 : Tw W0) (nm : Bs) (l : List Ex) (v : Value) (hl : ExsHas W0 v l) (hg : gEs l = true) (t : Bs) (W : World) (hW : Nb W0 W) (hT : Wr W0 t W) (hlen : (t ++ acT nm l).length ≤ 140737488355328) :
    Calls Tryd.prog 55 #[.pointer (some ⟨W0.heap.size, 0, none⟩), sV nm, v] W (Lays W0 t (acT nm l) W) := by
  rw [gEs_all, List.all_eq_true] at hg
  obtain ⟨X, hX⟩ : ∃ X, acT nm l = X := ⟨_, rfl⟩
  rw [hX] at hlen ⊢
  replace hX := Lib.hid hX.symm
  replace hlen := Lib.hid hlen
  rw [hX.out, acT] at hlen
  have hl1 := Lib.hid (fun t W hW hT hlen => listE_any W0 l (fun x hx => Ex.okc (hl.kids x hx).exs) (fun x hx => wexpr_any W0 hT0 x (hl.kids x hx) (hg x hx)) v hl.row t W hW hT hlen)
  go_enter Tryd.func55, Tryd.ntmps55
  go_wp2_with fail
  refine (put_any W0 t [nm, [40]] _ (hT.nb (alloc_nb _ _)) _ (new_blk _ _ rfl) (by have := hT.lt; omega) 2 (Nat.le_refl _) (by simp) (by have h := hlen.out; simp only [List.flatten_cons, List.flatten_nil, List.append_nil, List.length_append] at h ⊢; omega)).mono ?_
  rintro r W1 ⟨rfl, hT1, p1⟩
  have hA1 := Pk.nb (hW.trans (alloc_nb _ _)) p1
  have q1 : Pk W0 W W1 := (Pk.of_nb (Nat.le_of_lt hT.lt) (alloc_nb _ _)).trans p1
  go_wp2_with fail
  refine (hl1.out (t ++ [nm, [40]].flatten) W1 hA1 hT1 (by have h := hlen.out; simp only [List.flatten_cons, List.flatten_nil, List.append_nil, List.length_append] at h ⊢; omega)).mono ?_
  rintro r W2 ⟨rfl, hT2, p2⟩
  have hA2 := Pk.nb hA1 p2
  have q2 : Pk W0 W W2 := q1.trans (p2)
  go_wp2_with fail
  refine (put_any W0 ((t ++ [nm, [40]].flatten) ++ jnT (txEs l)) [[41]] _ (hT2.nb (alloc_nb _ _)) _ (new_blk _ _ rfl) (by have := hT2.lt; omega) 1 (Nat.le_refl _) (by simp) (by have h := hlen.out; simp only [List.flatten_cons, List.flatten_nil, List.append_nil, List.length_append] at h ⊢; omega)).mono ?_
  rintro r W3 ⟨rfl, hT3, p3⟩
  have hA3 := Pk.nb (hA2.trans (alloc_nb _ _)) p3
  have q3 : Pk W0 W W3 := q2.trans ((Pk.of_nb (Nat.le_of_lt hT2.lt) (alloc_nb _ _)).trans p3)
  go_wp2_with fail
  go_end0
  refine ⟨rfl, ?_, q3⟩
  rw [hX.out, acT]
  simpa only [List.flatten_cons, List.flatten_nil, List.append_nil, List.append_assoc] using hT3
theorem wstmt_any (W0 : World) (hT0 : Tw W0) (e : St) (he : e.Has W0) (hg : gSt e = true) (t : Bs) (W : World) (hW : Nb W0 W) (hT : Wr W0 t W) (hlen : (t ++ txS e).length ≤ 140737488355328) :
    Calls Tryd.prog 73 #[.pointer (some ⟨W0.heap.size, 0, none⟩), .agg e.cells.toArray] W (Lays W0 t (txS e) W) := by
  unfold gSt at hg
  rw [Bool.and_eq_true] at hg
  obtain ⟨hg, hgs⟩ := hg
  have hgs1 := hgs
  rw [gEs_all, List.all_eq_true] at hgs1
  have hlt := hT.lt
  have hl1 := Lib.hid (fun t W hW hT hlen => listE_any W0 e.args (fun x hx => Ex.okc (he.args.kids x hx).exs) (fun x hx => wexpr_any W0 hT0 x (he.args.kids x hx) (hgs1 x hx)) e.av he.args.row t W hW hT hlen)
  have hac := Lib.hid (fun nm t W hW hT hlen => wactor_any W0 hT0 nm e.args e.av he.args hgs t W hW hT hlen)
  obtain ⟨A0, cap0, hv0, -, -, -⟩ := he.args.head
  try rw [List.length_map] at hv0
  rw [hv0] at hl1 hac
  have hc : e.cells = [.int .i64 e.kind, .int .i64 e.at_, sV e.name, sV e.actor, .slice A0 e.args.length cap0] := by
    rw [← hv0]; rfl
  rw [hc]
  have htx : txS e = _ := rfl
  unfold txS at htx
  obtain ⟨X, hX⟩ : ∃ X, txS e = X := ⟨_, rfl⟩
  unfold txS at hX
  rw [show txS e = X from hX] at hlen ⊢
  replace hX := hX.symm
  unfold stateS at hg
  rw [show (hdS e).kind = e.kind from rfl] at hg
  by_cases hk1 : e.kind = 1
  · simp only [hk1, if_true, if_false, Int.reduceEq, true_or, or_true, or_self] at hg hX
    replace hX := Lib.hid hX
    replace hlen := Lib.hid (show (t ++ X).length ≤ 140737488355328 from hlen)
    rw [hX.out] at hlen
    rw [hk1] at *
    clear hc htx
    go_enter Tryd.func73, Tryd.ntmps73
    go_upto_region 1 with (fail)
    obtain ⟨W1, hW1⟩ : ∃ W1, W.alloc (.cells #[.int .i64 1, .int .i64 e.at_, sV e.name, sV e.actor, .slice A0 e.args.length cap0] 39) = W1 := ⟨_, rfl⟩
    have b1 : W1.heap[W.heap.size]? = some (.cells #[.int .i64 1, .int .i64 e.at_, sV e.name, sV e.actor, .slice A0 e.args.length cap0] 39 (0, 0)) := by rw [← hW1]; exact new_blk _ _ rfl
    have n1 : Nb W W1 := by rw [← hW1]; exact alloc_nb _ _
    rw [hW1]
    have hT1 := hT.nb n1
    have hA1 := hW.trans n1
    have q1 : Pk W0 W W1 := Pk.of_nb (Nat.le_of_lt hlt) n1
    clear hW1 n1
    have y0 := cell_of_row _ _ 0 _ _ _ b1
    have y1 := cell_of_row _ _ 1 _ _ _ b1
    have y2 := cell_of_row _ _ 2 _ _ _ b1
    have y3 := cell_of_row _ _ 3 _ _ _ b1
    have y4 := cell_of_row _ _ 4 _ _ _ b1
    go_wp2_with fail
    refine (put_any W0 t [[108, 101, 116, 32], e.name, [32, 61, 32]] _ (hT1.nb (alloc_nb _ _)) _ (new_blk _ _ rfl) (by have := hT1.lt; omega) 3 (Nat.le_refl _) (by simp) (by have h := hlen.out; simp only [List.flatten_cons, List.flatten_nil, List.append_nil, List.length_append] at h ⊢; omega)).mono ?_
    rintro r W2 ⟨rfl, hT2, p2⟩
    have hA2 := Pk.nb (hA1.trans (alloc_nb _ _)) p2
    have b2 := p2.block (old_blk b1 _) (by omega) (by decide)
    have q2 : Pk W0 W W2 := q1.trans ((Pk.of_nb (Nat.le_of_lt hT1.lt) (alloc_nb _ _)).trans p2)
    have y0 := cell_of_row _ _ 0 _ _ _ b2
    have y1 := cell_of_row _ _ 1 _ _ _ b2
    have y2 := cell_of_row _ _ 2 _ _ _ b2
    have y3 := cell_of_row _ _ 3 _ _ _ b2
    have y4 := cell_of_row _ _ 4 _ _ _ b2
    go_wp2_with fail
    refine (hl1.out (t ++ [[108, 101, 116, 32], e.name, [32, 61, 32]].flatten) W2 hA2 hT2 (by have h := hlen.out; simp only [List.flatten_cons, List.flatten_nil, List.append_nil, List.length_append] at h ⊢; omega)).mono ?_
    rintro r W3 ⟨rfl, hT3, p3⟩
    have hA3 := Pk.nb hA2 p3
    have b3 := p3.block b2 (by omega) (by decide)
    have q3 : Pk W0 W W3 := q2.trans (p3)
    have y0 := cell_of_row _ _ 0 _ _ _ b3
    have y1 := cell_of_row _ _ 1 _ _ _ b3
    have y2 := cell_of_row _ _ 2 _ _ _ b3
    have y3 := cell_of_row _ _ 3 _ _ _ b3
    have y4 := cell_of_row _ _ 4 _ _ _ b3
    go_wp2_with fail
    refine (put_any W0 ((t ++ [[108, 101, 116, 32], e.name, [32, 61, 32]].flatten) ++ jnT (txEs e.args)) [[59]] _ (hT3.nb (alloc_nb _ _)) _ (new_blk _ _ rfl) (by have := hT3.lt; omega) 1 (Nat.le_refl _) (by simp) (by have h := hlen.out; simp only [List.flatten_cons, List.flatten_nil, List.append_nil, List.length_append] at h ⊢; omega)).mono ?_
    rintro r W4 ⟨rfl, hT4, p4⟩
    have hA4 := Pk.nb (hA3.trans (alloc_nb _ _)) p4
    have b4 := p4.block (old_blk b3 _) (by omega) (by decide)
    have q4 : Pk W0 W W4 := q3.trans ((Pk.of_nb (Nat.le_of_lt hT3.lt) (alloc_nb _ _)).trans p4)
    go_wp2_with fail
    go_end0
    refine ⟨rfl, ?_, q4⟩
    rw [hX.out]
    simpa only [List.flatten_cons, List.flatten_nil, List.append_nil, List.append_assoc] using hT4
  by_cases hk2 : e.kind = 2
  · simp only [hk2, if_true, if_false, Int.reduceEq, true_or, or_true, or_self] at hg hX
    replace hX := Lib.hid hX
    replace hlen := Lib.hid (show (t ++ X).length ≤ 140737488355328 from hlen)
    rw [hX.out] at hlen
    rw [hk2] at *
    clear hc htx
    go_enter Tryd.func73, Tryd.ntmps73
    go_upto_region 1 with (fail)
    obtain ⟨W1, hW1⟩ : ∃ W1, W.alloc (.cells #[.int .i64 2, .int .i64 e.at_, sV e.name, sV e.actor, .slice A0 e.args.length cap0] 39) = W1 := ⟨_, rfl⟩
    have b1 : W1.heap[W.heap.size]? = some (.cells #[.int .i64 2, .int .i64 e.at_, sV e.name, sV e.actor, .slice A0 e.args.length cap0] 39 (0, 0)) := by rw [← hW1]; exact new_blk _ _ rfl
    have n1 : Nb W W1 := by rw [← hW1]; exact alloc_nb _ _
    rw [hW1]
    have hT1 := hT.nb n1
    have hA1 := hW.trans n1
    have q1 : Pk W0 W W1 := Pk.of_nb (Nat.le_of_lt hlt) n1
    clear hW1 n1
    have y0 := cell_of_row _ _ 0 _ _ _ b1
    have y1 := cell_of_row _ _ 1 _ _ _ b1
    have y2 := cell_of_row _ _ 2 _ _ _ b1
    have y3 := cell_of_row _ _ 3 _ _ _ b1
    have y4 := cell_of_row _ _ 4 _ _ _ b1
    go_wp2_with fail
    refine (put_any W0 t [[108, 101, 116, 32], e.name, [32, 61, 32, 115, 112, 97, 119, 110, 32]] _ (hT1.nb (alloc_nb _ _)) _ (new_blk _ _ rfl) (by have := hT1.lt; omega) 3 (Nat.le_refl _) (by simp) (by have h := hlen.out; simp only [List.flatten_cons, List.flatten_nil, List.append_nil, List.length_append] at h ⊢; omega)).mono ?_
    rintro r W2 ⟨rfl, hT2, p2⟩
    have hA2 := Pk.nb (hA1.trans (alloc_nb _ _)) p2
    have b2 := p2.block (old_blk b1 _) (by omega) (by decide)
    have q2 : Pk W0 W W2 := q1.trans ((Pk.of_nb (Nat.le_of_lt hT1.lt) (alloc_nb _ _)).trans p2)
    have y0 := cell_of_row _ _ 0 _ _ _ b2
    have y1 := cell_of_row _ _ 1 _ _ _ b2
    have y2 := cell_of_row _ _ 2 _ _ _ b2
    have y3 := cell_of_row _ _ 3 _ _ _ b2
    have y4 := cell_of_row _ _ 4 _ _ _ b2
    go_wp2_with fail
    refine (hac.out e.actor (t ++ [[108, 101, 116, 32], e.name, [32, 61, 32, 115, 112, 97, 119, 110, 32]].flatten) W2 hA2 hT2 (by have h := hlen.out; simp only [List.flatten_cons, List.flatten_nil, List.append_nil, List.length_append] at h ⊢; omega)).mono ?_
    rintro r W3 ⟨rfl, hT3, p3⟩
    have hA3 := Pk.nb hA2 p3
    have b3 := p3.block b2 (by omega) (by decide)
    have q3 : Pk W0 W W3 := q2.trans (p3)
    have y0 := cell_of_row _ _ 0 _ _ _ b3
    have y1 := cell_of_row _ _ 1 _ _ _ b3
    have y2 := cell_of_row _ _ 2 _ _ _ b3
    have y3 := cell_of_row _ _ 3 _ _ _ b3
    have y4 := cell_of_row _ _ 4 _ _ _ b3
    go_wp2_with fail
    refine (put_any W0 ((t ++ [[108, 101, 116, 32], e.name, [32, 61, 32, 115, 112, 97, 119, 110, 32]].flatten) ++ acT e.actor e.args) [[59]] _ (hT3.nb (alloc_nb _ _)) _ (new_blk _ _ rfl) (by have := hT3.lt; omega) 1 (Nat.le_refl _) (by simp) (by have h := hlen.out; simp only [List.flatten_cons, List.flatten_nil, List.append_nil, List.length_append] at h ⊢; omega)).mono ?_
    rintro r W4 ⟨rfl, hT4, p4⟩
    have hA4 := Pk.nb (hA3.trans (alloc_nb _ _)) p4
    have b4 := p4.block (old_blk b3 _) (by omega) (by decide)
    have q4 : Pk W0 W W4 := q3.trans ((Pk.of_nb (Nat.le_of_lt hT3.lt) (alloc_nb _ _)).trans p4)
    go_wp2_with fail
    go_end0
    refine ⟨rfl, ?_, q4⟩
    rw [hX.out]
    simpa only [List.flatten_cons, List.flatten_nil, List.append_nil, List.append_assoc] using hT4
  by_cases hk3 : e.kind = 3
  · simp only [hk3, if_true, if_false, Int.reduceEq, true_or, or_true, or_self] at hg hX
    replace hX := Lib.hid hX
    replace hlen := Lib.hid (show (t ++ X).length ≤ 140737488355328 from hlen)
    rw [hX.out] at hlen
    rw [hk3] at *
    clear hc htx
    go_enter Tryd.func73, Tryd.ntmps73
    go_upto_region 1 with (fail)
    obtain ⟨W1, hW1⟩ : ∃ W1, W.alloc (.cells #[.int .i64 3, .int .i64 e.at_, sV e.name, sV e.actor, .slice A0 e.args.length cap0] 39) = W1 := ⟨_, rfl⟩
    have b1 : W1.heap[W.heap.size]? = some (.cells #[.int .i64 3, .int .i64 e.at_, sV e.name, sV e.actor, .slice A0 e.args.length cap0] 39 (0, 0)) := by rw [← hW1]; exact new_blk _ _ rfl
    have n1 : Nb W W1 := by rw [← hW1]; exact alloc_nb _ _
    rw [hW1]
    have hT1 := hT.nb n1
    have hA1 := hW.trans n1
    have q1 : Pk W0 W W1 := Pk.of_nb (Nat.le_of_lt hlt) n1
    clear hW1 n1
    have y0 := cell_of_row _ _ 0 _ _ _ b1
    have y1 := cell_of_row _ _ 1 _ _ _ b1
    have y2 := cell_of_row _ _ 2 _ _ _ b1
    have y3 := cell_of_row _ _ 3 _ _ _ b1
    have y4 := cell_of_row _ _ 4 _ _ _ b1
    go_wp2_with fail
    refine (put_any W0 t [[115, 101, 110, 100, 32]] _ (hT1.nb (alloc_nb _ _)) _ (new_blk _ _ rfl) (by have := hT1.lt; omega) 1 (Nat.le_refl _) (by simp) (by have h := hlen.out; simp only [List.flatten_cons, List.flatten_nil, List.append_nil, List.length_append] at h ⊢; omega)).mono ?_
    rintro r W2 ⟨rfl, hT2, p2⟩
    have hA2 := Pk.nb (hA1.trans (alloc_nb _ _)) p2
    have b2 := p2.block (old_blk b1 _) (by omega) (by decide)
    have q2 : Pk W0 W W2 := q1.trans ((Pk.of_nb (Nat.le_of_lt hT1.lt) (alloc_nb _ _)).trans p2)
    have y0 := cell_of_row _ _ 0 _ _ _ b2
    have y1 := cell_of_row _ _ 1 _ _ _ b2
    have y2 := cell_of_row _ _ 2 _ _ _ b2
    have y3 := cell_of_row _ _ 3 _ _ _ b2
    have y4 := cell_of_row _ _ 4 _ _ _ b2
    go_wp2_with fail
    refine (hl1.out (t ++ [[115, 101, 110, 100, 32]].flatten) W2 hA2 hT2 (by have h := hlen.out; simp only [List.flatten_cons, List.flatten_nil, List.append_nil, List.length_append] at h ⊢; omega)).mono ?_
    rintro r W3 ⟨rfl, hT3, p3⟩
    have hA3 := Pk.nb hA2 p3
    have b3 := p3.block b2 (by omega) (by decide)
    have q3 : Pk W0 W W3 := q2.trans (p3)
    have y0 := cell_of_row _ _ 0 _ _ _ b3
    have y1 := cell_of_row _ _ 1 _ _ _ b3
    have y2 := cell_of_row _ _ 2 _ _ _ b3
    have y3 := cell_of_row _ _ 3 _ _ _ b3
    have y4 := cell_of_row _ _ 4 _ _ _ b3
    go_wp2_with fail
    refine (put_any W0 ((t ++ [[115, 101, 110, 100, 32]].flatten) ++ jnT (txEs e.args)) [[59]] _ (hT3.nb (alloc_nb _ _)) _ (new_blk _ _ rfl) (by have := hT3.lt; omega) 1 (Nat.le_refl _) (by simp) (by have h := hlen.out; simp only [List.flatten_cons, List.flatten_nil, List.append_nil, List.length_append] at h ⊢; omega)).mono ?_
    rintro r W4 ⟨rfl, hT4, p4⟩
    have hA4 := Pk.nb (hA3.trans (alloc_nb _ _)) p4
    have b4 := p4.block (old_blk b3 _) (by omega) (by decide)
    have q4 : Pk W0 W W4 := q3.trans ((Pk.of_nb (Nat.le_of_lt hT3.lt) (alloc_nb _ _)).trans p4)
    go_wp2_with fail
    go_end0
    refine ⟨rfl, ?_, q4⟩
    rw [hX.out]
    simpa only [List.flatten_cons, List.flatten_nil, List.append_nil, List.append_assoc] using hT4
  by_cases hk4 : e.kind = 4
  · simp only [hk4, if_true, if_false, Int.reduceEq, true_or, or_true, or_self] at hg hX
    replace hX := Lib.hid hX
    replace hlen := Lib.hid (show (t ++ X).length ≤ 140737488355328 from hlen)
    rw [hX.out] at hlen
    rw [hk4] at *
    clear hc htx
    go_enter Tryd.func73, Tryd.ntmps73
    go_upto_region 1 with (fail)
    obtain ⟨W1, hW1⟩ : ∃ W1, W.alloc (.cells #[.int .i64 4, .int .i64 e.at_, sV e.name, sV e.actor, .slice A0 e.args.length cap0] 39) = W1 := ⟨_, rfl⟩
    have b1 : W1.heap[W.heap.size]? = some (.cells #[.int .i64 4, .int .i64 e.at_, sV e.name, sV e.actor, .slice A0 e.args.length cap0] 39 (0, 0)) := by rw [← hW1]; exact new_blk _ _ rfl
    have n1 : Nb W W1 := by rw [← hW1]; exact alloc_nb _ _
    rw [hW1]
    have hT1 := hT.nb n1
    have hA1 := hW.trans n1
    have q1 : Pk W0 W W1 := Pk.of_nb (Nat.le_of_lt hlt) n1
    clear hW1 n1
    have y0 := cell_of_row _ _ 0 _ _ _ b1
    have y1 := cell_of_row _ _ 1 _ _ _ b1
    have y2 := cell_of_row _ _ 2 _ _ _ b1
    have y3 := cell_of_row _ _ 3 _ _ _ b1
    have y4 := cell_of_row _ _ 4 _ _ _ b1
    go_wp2_with fail
    refine (put_any W0 t [[111, 117, 116, 32]] _ (hT1.nb (alloc_nb _ _)) _ (new_blk _ _ rfl) (by have := hT1.lt; omega) 1 (Nat.le_refl _) (by simp) (by have h := hlen.out; simp only [List.flatten_cons, List.flatten_nil, List.append_nil, List.length_append] at h ⊢; omega)).mono ?_
    rintro r W2 ⟨rfl, hT2, p2⟩
    have hA2 := Pk.nb (hA1.trans (alloc_nb _ _)) p2
    have b2 := p2.block (old_blk b1 _) (by omega) (by decide)
    have q2 : Pk W0 W W2 := q1.trans ((Pk.of_nb (Nat.le_of_lt hT1.lt) (alloc_nb _ _)).trans p2)
    have y0 := cell_of_row _ _ 0 _ _ _ b2
    have y1 := cell_of_row _ _ 1 _ _ _ b2
    have y2 := cell_of_row _ _ 2 _ _ _ b2
    have y3 := cell_of_row _ _ 3 _ _ _ b2
    have y4 := cell_of_row _ _ 4 _ _ _ b2
    go_wp2_with fail
    refine (hl1.out (t ++ [[111, 117, 116, 32]].flatten) W2 hA2 hT2 (by have h := hlen.out; simp only [List.flatten_cons, List.flatten_nil, List.append_nil, List.length_append] at h ⊢; omega)).mono ?_
    rintro r W3 ⟨rfl, hT3, p3⟩
    have hA3 := Pk.nb hA2 p3
    have b3 := p3.block b2 (by omega) (by decide)
    have q3 : Pk W0 W W3 := q2.trans (p3)
    have y0 := cell_of_row _ _ 0 _ _ _ b3
    have y1 := cell_of_row _ _ 1 _ _ _ b3
    have y2 := cell_of_row _ _ 2 _ _ _ b3
    have y3 := cell_of_row _ _ 3 _ _ _ b3
    have y4 := cell_of_row _ _ 4 _ _ _ b3
    go_wp2_with fail
    refine (put_any W0 ((t ++ [[111, 117, 116, 32]].flatten) ++ jnT (txEs e.args)) [[59]] _ (hT3.nb (alloc_nb _ _)) _ (new_blk _ _ rfl) (by have := hT3.lt; omega) 1 (Nat.le_refl _) (by simp) (by have h := hlen.out; simp only [List.flatten_cons, List.flatten_nil, List.append_nil, List.length_append] at h ⊢; omega)).mono ?_
    rintro r W4 ⟨rfl, hT4, p4⟩
    have hA4 := Pk.nb (hA3.trans (alloc_nb _ _)) p4
    have b4 := p4.block (old_blk b3 _) (by omega) (by decide)
    have q4 : Pk W0 W W4 := q3.trans ((Pk.of_nb (Nat.le_of_lt hT3.lt) (alloc_nb _ _)).trans p4)
    go_wp2_with fail
    go_end0
    refine ⟨rfl, ?_, q4⟩
    rw [hX.out]
    simpa only [List.flatten_cons, List.flatten_nil, List.append_nil, List.append_assoc] using hT4
  · simp only [hk1, hk2, hk3, hk4, if_false, Bool.false_eq_true] at hg
end Go.Proofs.YtojogolmcclpoaaDoor
