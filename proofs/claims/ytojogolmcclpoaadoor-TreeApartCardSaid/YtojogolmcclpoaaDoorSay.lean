/-
  Proved here: of the code: laying an expression. Conditions: stated.
-/
import Derived.Test.YtojogolmcclpoaaDoorSaw
import Derived.Test.YtojogolmcclpoaaDoorSax
import Derived.Test.YtojogolmcclpoaaDoorSaa
import Derived.Test.YtojogolmcclpoaaDoorSae
import Derived.Test.YtojogolmcclpoaaDoorSau
namespace Go.Proofs.YtojogolmcclpoaaDoor
open Go.RowKit Go.Shelf
set_option linter.unusedVariables false
set_option linter.unusedSimpArgs false
set_option maxRecDepth 100000
set_option maxHeartbeats 4000000
open Go.Sort
attribute [-go_sem] run_eql_struct
def Tw (w : World) : Prop := Lib.TabIs Tryd.prog w "internal/strconv.uint64pow10" .u64 Lib.pow10Tab
theorem var_nbT {P : Program} {a b : World} {n : String} {cs : Array Value} (h : a.var? P n = some cs) (k : Nb a b) : b.var? P n = some cs := by
  unfold World.var? at h ⊢
  cases hg : P.globalNamed n with
  | none => rw [hg] at h; cases h
  | some g =>
    rw [hg] at h
    simp only [Option.bind_some] at h ⊢
    cases ho : a.heap[g]? with
    | none => rw [ho] at h; cases h
    | some o => rw [k.block ho]; rw [ho] at h; exact h

theorem grow_nbT (w : World) (k : Nat) (os : Array Obj) : Nb w (grow (w.drewN k) os) := by
  refine ⟨rfl, rfl, rfl, ?_, fun i hi => ?_⟩
  · show w.heap.size ≤ (w.heap ++ os).size
    rw [Array.size_append]; exact Nat.le_add_right _ _
  · show (w.heap ++ os)[i]? = w.heap[i]?
    rw [Array.getElem?_append_left hi]
theorem itoa_T (W0 : World) (hT0 : Tw W0) {n : Int} (h0 : -9223372036854775808 ≤ n) (h1 : n < 9223372036854775808) (W : World) (hW : Nb W0 W) :
    Calls Tryd.prog 76 #[.int .i64 n] W fun r W' => r = .returned (sV (Lib.itoa n)) ∧ Nb W W' := by
  refine (Tryd.strconv_Itoa n h0 (by omega) W (var_nbT hT0 hW)).mono ?_
  rintro r W' ⟨rfl, k, os, rfl⟩
  exact ⟨rfl, grow_nbT W k os⟩
theorem eqH_d {h k : Hd} (e : eqH h k = true) : h = k := (eqH_iff h k).1 e
theorem wexpr_any (W0 : World) (hT0 : Tw W0) : ∀ e : Ex, e.Has W0 → gE e = true → ∀ t W, Nb W0 W → Wr W0 t W → (t ++ txE e).length ≤ 140737488355328 → Calls Tryd.prog 69 #[.pointer (some ⟨W0.heap.size, 0, none⟩), .agg e.cells.toArray] W (Lays W0 t (txE e) W) := by
  intro e
  induction e using Ex.ind
  rename_i e ih
  intro he hg t W hW hT hlen
  rw [gE_eq, Bool.and_eq_true] at hg
  obtain ⟨hg, hgs⟩ := hg
  rw [gEs_all, List.all_eq_true] at hgs
  have hlt := hT.lt
  have hnum := he.num
  obtain ⟨A0, cap0, hv0, -, -, -⟩ := he.exs.head
  try rw [List.length_map] at hv0
  have hc : e.cells = [.int .i64 e.kind, .int .i64 e.at_, .int .i64 e.n, sV e.name, .slice A0 e.args.length cap0] := by
    rw [← hv0]; rfl
  rw [hc]
  have htx := txE_eq e
  obtain ⟨X, hX⟩ : ∃ X, txE e = X := ⟨_, rfl⟩
  rw [hX] at htx hlen ⊢
  replace hX := htx
  clear htx
  unfold reckS at hg
  rw [show (hdE e).kind = e.kind from rfl] at hg
  by_cases hk1 : e.kind = 1
  · simp only [hk1, if_true, if_false, Int.reduceEq, true_or, or_true, or_self] at hg hX
    
    replace hX := Lib.hid hX
    replace hlen := Lib.hid (show (t ++ X).length ≤ 140737488355328 from hlen)
    rw [hX.out] at hlen
    rw [hk1] at *
    clear hc
    go_enter Tryd.func69, Tryd.ntmps69
    go_upto_region 1 with (fail)
    obtain ⟨W1, hW1⟩ : ∃ W1, W.alloc (.cells #[.int .i64 1, .int .i64 e.at_, .int .i64 e.n, sV e.name, .slice A0 e.args.length cap0] 36) = W1 := ⟨_, rfl⟩
    have b1 : W1.heap[W.heap.size]? = some (.cells #[.int .i64 1, .int .i64 e.at_, .int .i64 e.n, sV e.name, .slice A0 e.args.length cap0] 36 (0, 0)) := by rw [← hW1]; exact new_blk _ _ rfl
    have n1 : Nb W W1 := by rw [← hW1]; exact alloc_nb _ _
    rw [hW1]
    have hT1 := hT.nb n1
    have hA1 := hW.trans n1
    have q1 : Pk W0 W W1 := Pk.of_nb (Nat.le_of_lt hlt) n1
    clear hW1 n1
    have y0 := cell_of_row _ _ 0 _ _ _ b1
    have y1 := cell_of_row _ _ 1 _ _ _ b1
    have y2 := cell_of_row _ _ 2 _ _ _ b1
    have y3 := cell_of_row _ _ 3 _ _ _ b1
    have y4 := cell_of_row _ _ 4 _ _ _ b1
    go_wp2_with fail
    refine (itoa_T W0 hT0 hnum.1 hnum.2 _ hA1).mono ?_
    rintro r V2 ⟨rfl, m2⟩
    have hT2v := hT1.nb m2
    have hA2v := hA1.trans m2
    have q2v : Pk W0 W V2 := q1.trans (Pk.of_nb (Nat.le_of_lt hT1.lt) m2)
    have b2v := m2.block b1
    have lt2v := hT2v.lt
    go_wp2_with fail
    refine (put_any W0 t [Lib.itoa e.n] _ (hT2v.nb (alloc_nb _ _)) _ (new_blk _ _ rfl) (by have := hT2v.lt; omega) 1 (Nat.le_refl _) (by simp) (by have h := hlen.out; simp only [List.flatten_cons, List.flatten_nil, List.append_nil, List.length_append] at h ⊢; omega)).mono ?_
    rintro r W2 ⟨rfl, hT2, p2⟩
    have hA2 := Pk.nb (hA2v.trans (alloc_nb _ _)) p2
    have b2 := p2.block (old_blk b2v _) (by omega) (by decide)
    have q2 : Pk W0 W W2 := q2v.trans ((Pk.of_nb (Nat.le_of_lt hT2v.lt) (alloc_nb _ _)).trans p2)
    go_wp2_with fail
    go_end0
    refine ⟨rfl, ?_, q2⟩
    rw [hX.out]
    simpa only [List.flatten_cons, List.flatten_nil, List.append_nil, List.append_assoc] using hT2
  by_cases hk2 : e.kind = 2
  · simp only [hk2, if_true, if_false, Int.reduceEq, true_or, or_true, or_self] at hg hX
    
    replace hX := Lib.hid hX
    replace hlen := Lib.hid (show (t ++ X).length ≤ 140737488355328 from hlen)
    rw [hX.out] at hlen
    rw [hk2] at *
    clear hc
    go_enter Tryd.func69, Tryd.ntmps69
    go_upto_region 1 with (fail)
    obtain ⟨W1, hW1⟩ : ∃ W1, W.alloc (.cells #[.int .i64 2, .int .i64 e.at_, .int .i64 e.n, sV e.name, .slice A0 e.args.length cap0] 36) = W1 := ⟨_, rfl⟩
    have b1 : W1.heap[W.heap.size]? = some (.cells #[.int .i64 2, .int .i64 e.at_, .int .i64 e.n, sV e.name, .slice A0 e.args.length cap0] 36 (0, 0)) := by rw [← hW1]; exact new_blk _ _ rfl
    have n1 : Nb W W1 := by rw [← hW1]; exact alloc_nb _ _
    rw [hW1]
    have hT1 := hT.nb n1
    have hA1 := hW.trans n1
    have q1 : Pk W0 W W1 := Pk.of_nb (Nat.le_of_lt hlt) n1
    clear hW1 n1
    have y0 := cell_of_row _ _ 0 _ _ _ b1
    have y1 := cell_of_row _ _ 1 _ _ _ b1
    have y2 := cell_of_row _ _ 2 _ _ _ b1
    have y3 := cell_of_row _ _ 3 _ _ _ b1
    have y4 := cell_of_row _ _ 4 _ _ _ b1
    go_wp2_with fail
    refine (put_any W0 t [[39], e.name] _ (hT1.nb (alloc_nb _ _)) _ (new_blk _ _ rfl) (by have := hT1.lt; omega) 2 (Nat.le_refl _) (by simp) (by have h := hlen.out; simp only [List.flatten_cons, List.flatten_nil, List.append_nil, List.length_append] at h ⊢; omega)).mono ?_
    rintro r W2 ⟨rfl, hT2, p2⟩
    have hA2 := Pk.nb (hA1.trans (alloc_nb _ _)) p2
    have b2 := p2.block (old_blk b1 _) (by omega) (by decide)
    have q2 : Pk W0 W W2 := q1.trans ((Pk.of_nb (Nat.le_of_lt hT1.lt) (alloc_nb _ _)).trans p2)
    go_wp2_with fail
    go_end0
    refine ⟨rfl, ?_, q2⟩
    rw [hX.out]
    simpa only [List.flatten_cons, List.flatten_nil, List.append_nil, List.append_assoc] using hT2
  by_cases hk3 : e.kind = 3
  · simp only [hk3, if_true, if_false, Int.reduceEq, true_or, or_true, or_self] at hg hX
    
    replace hX := Lib.hid hX
    replace hlen := Lib.hid (show (t ++ X).length ≤ 140737488355328 from hlen)
    rw [hX.out] at hlen
    rw [hk3] at *
    clear hc
    go_enter Tryd.func69, Tryd.ntmps69
    go_upto_region 1 with (fail)
    obtain ⟨W1, hW1⟩ : ∃ W1, W.alloc (.cells #[.int .i64 3, .int .i64 e.at_, .int .i64 e.n, sV e.name, .slice A0 e.args.length cap0] 36) = W1 := ⟨_, rfl⟩
    have b1 : W1.heap[W.heap.size]? = some (.cells #[.int .i64 3, .int .i64 e.at_, .int .i64 e.n, sV e.name, .slice A0 e.args.length cap0] 36 (0, 0)) := by rw [← hW1]; exact new_blk _ _ rfl
    have n1 : Nb W W1 := by rw [← hW1]; exact alloc_nb _ _
    rw [hW1]
    have hT1 := hT.nb n1
    have hA1 := hW.trans n1
    have q1 : Pk W0 W W1 := Pk.of_nb (Nat.le_of_lt hlt) n1
    clear hW1 n1
    have y0 := cell_of_row _ _ 0 _ _ _ b1
    have y1 := cell_of_row _ _ 1 _ _ _ b1
    have y2 := cell_of_row _ _ 2 _ _ _ b1
    have y3 := cell_of_row _ _ 3 _ _ _ b1
    have y4 := cell_of_row _ _ 4 _ _ _ b1
    go_wp2_with fail
    refine (put_any W0 t [e.name] _ (hT1.nb (alloc_nb _ _)) _ (new_blk _ _ rfl) (by have := hT1.lt; omega) 1 (Nat.le_refl _) (by simp) (by have h := hlen.out; simp only [List.flatten_cons, List.flatten_nil, List.append_nil, List.length_append] at h ⊢; omega)).mono ?_
    rintro r W2 ⟨rfl, hT2, p2⟩
    have hA2 := Pk.nb (hA1.trans (alloc_nb _ _)) p2
    have b2 := p2.block (old_blk b1 _) (by omega) (by decide)
    have q2 : Pk W0 W W2 := q1.trans ((Pk.of_nb (Nat.le_of_lt hT1.lt) (alloc_nb _ _)).trans p2)
    go_wp2_with fail
    go_end0
    refine ⟨rfl, ?_, q2⟩
    rw [hX.out]
    simpa only [List.flatten_cons, List.flatten_nil, List.append_nil, List.append_assoc] using hT2
  by_cases hk4 : e.kind = 4
  · simp only [hk4, if_true, if_false, Int.reduceEq, true_or, or_true, or_self] at hg hX
    
    replace hX := Lib.hid hX
    replace hlen := Lib.hid (show (t ++ X).length ≤ 140737488355328 from hlen)
    rw [hX.out] at hlen
    rw [hk4] at *
    clear hc
    go_enter Tryd.func69, Tryd.ntmps69
    go_upto_region 1 with (fail)
    obtain ⟨W1, hW1⟩ : ∃ W1, W.alloc (.cells #[.int .i64 4, .int .i64 e.at_, .int .i64 e.n, sV e.name, .slice A0 e.args.length cap0] 36) = W1 := ⟨_, rfl⟩
    have b1 : W1.heap[W.heap.size]? = some (.cells #[.int .i64 4, .int .i64 e.at_, .int .i64 e.n, sV e.name, .slice A0 e.args.length cap0] 36 (0, 0)) := by rw [← hW1]; exact new_blk _ _ rfl
    have n1 : Nb W W1 := by rw [← hW1]; exact alloc_nb _ _
    rw [hW1]
    have hT1 := hT.nb n1
    have hA1 := hW.trans n1
    have q1 : Pk W0 W W1 := Pk.of_nb (Nat.le_of_lt hlt) n1
    clear hW1 n1
    have y0 := cell_of_row _ _ 0 _ _ _ b1
    have y1 := cell_of_row _ _ 1 _ _ _ b1
    have y2 := cell_of_row _ _ 2 _ _ _ b1
    have y3 := cell_of_row _ _ 3 _ _ _ b1
    have y4 := cell_of_row _ _ 4 _ _ _ b1
    go_wp2_with fail
    refine (put_any W0 t [[115, 101, 108, 102]] _ (hT1.nb (alloc_nb _ _)) _ (new_blk _ _ rfl) (by have := hT1.lt; omega) 1 (Nat.le_refl _) (by simp) (by have h := hlen.out; simp only [List.flatten_cons, List.flatten_nil, List.append_nil, List.length_append] at h ⊢; omega)).mono ?_
    rintro r W2 ⟨rfl, hT2, p2⟩
    have hA2 := Pk.nb (hA1.trans (alloc_nb _ _)) p2
    have b2 := p2.block (old_blk b1 _) (by omega) (by decide)
    have q2 : Pk W0 W W2 := q1.trans ((Pk.of_nb (Nat.le_of_lt hT1.lt) (alloc_nb _ _)).trans p2)
    go_wp2_with fail
    go_end0
    refine ⟨rfl, ?_, q2⟩
    rw [hX.out]
    simpa only [List.flatten_cons, List.flatten_nil, List.append_nil, List.append_assoc] using hT2
  by_cases hk5 : e.kind = 5
  · simp only [hk5, if_true, if_false, Int.reduceEq, true_or, or_true, or_self] at hg hX
    have hok : ∀ x ∈ e.args, x.cells.toArray.all (·.oneCell') = true := fun x hx => Ex.okc (he.exs.kids x hx).exs
    replace hX := Lib.hid hX
    replace hlen := Lib.hid (show (t ++ X).length ≤ 140737488355328 from hlen)
    rw [hX.out] at hlen
    rw [hk5] at *
    clear hc
    go_enter Tryd.func69, Tryd.ntmps69
    go_upto_region 1 with (fail)
    obtain ⟨W1, hW1⟩ : ∃ W1, W.alloc (.cells #[.int .i64 5, .int .i64 e.at_, .int .i64 e.n, sV e.name, .slice A0 e.args.length cap0] 36) = W1 := ⟨_, rfl⟩
    have b1 : W1.heap[W.heap.size]? = some (.cells #[.int .i64 5, .int .i64 e.at_, .int .i64 e.n, sV e.name, .slice A0 e.args.length cap0] 36 (0, 0)) := by rw [← hW1]; exact new_blk _ _ rfl
    have n1 : Nb W W1 := by rw [← hW1]; exact alloc_nb _ _
    rw [hW1]
    have hT1 := hT.nb n1
    have hA1 := hW.trans n1
    have q1 : Pk W0 W W1 := Pk.of_nb (Nat.le_of_lt hlt) n1
    clear hW1 n1
    have y0 := cell_of_row _ _ 0 _ _ _ b1
    have y1 := cell_of_row _ _ 1 _ _ _ b1
    have y2 := cell_of_row _ _ 2 _ _ _ b1
    have y3 := cell_of_row _ _ 3 _ _ _ b1
    have y4 := cell_of_row _ _ 4 _ _ _ b1
    go_wp2_with fail
    refine (put_any W0 t [[123]] _ (hT1.nb (alloc_nb _ _)) _ (new_blk _ _ rfl) (by have := hT1.lt; omega) 1 (Nat.le_refl _) (by simp) (by have h := hlen.out; simp only [List.flatten_cons, List.flatten_nil, List.append_nil, List.length_append] at h ⊢; omega)).mono ?_
    rintro r W2 ⟨rfl, hT2, p2⟩
    have hA2 := Pk.nb (hA1.trans (alloc_nb _ _)) p2
    have b2 := p2.block (old_blk b1 _) (by omega) (by decide)
    have q2 : Pk W0 W W2 := q1.trans ((Pk.of_nb (Nat.le_of_lt hT1.lt) (alloc_nb _ _)).trans p2)
    have y0 := cell_of_row _ _ 0 _ _ _ b2
    have y1 := cell_of_row _ _ 1 _ _ _ b2
    have y2 := cell_of_row _ _ 2 _ _ _ b2
    have y3 := cell_of_row _ _ 3 _ _ _ b2
    have y4 := cell_of_row _ _ 4 _ _ _ b2
    go_wp2_with fail
    refine (listE_any W0 e.args hok (fun x hx => ih x hx (he.exs.kids x hx) (hgs x hx)) _ (hv0 ▸ he.exs.row) (t ++ [[123]].flatten) W2 hA2 hT2 (by have h := hlen.out; simp only [List.flatten_cons, List.flatten_nil, List.append_nil, List.length_append] at h ⊢; omega)).mono ?_
    rintro r W3 ⟨rfl, hT3, p3⟩
    have hA3 := Pk.nb hA2 p3
    have b3 := p3.block b2 (by omega) (by decide)
    have q3 : Pk W0 W W3 := q2.trans (p3)
    have y0 := cell_of_row _ _ 0 _ _ _ b3
    have y1 := cell_of_row _ _ 1 _ _ _ b3
    have y2 := cell_of_row _ _ 2 _ _ _ b3
    have y3 := cell_of_row _ _ 3 _ _ _ b3
    have y4 := cell_of_row _ _ 4 _ _ _ b3
    go_wp2_with fail
    refine (put_any W0 ((t ++ [[123]].flatten) ++ jnT (txEs e.args)) [[125]] _ (hT3.nb (alloc_nb _ _)) _ (new_blk _ _ rfl) (by have := hT3.lt; omega) 1 (Nat.le_refl _) (by simp) (by have h := hlen.out; simp only [List.flatten_cons, List.flatten_nil, List.append_nil, List.length_append] at h ⊢; omega)).mono ?_
    rintro r W4 ⟨rfl, hT4, p4⟩
    have hA4 := Pk.nb (hA3.trans (alloc_nb _ _)) p4
    have b4 := p4.block (old_blk b3 _) (by omega) (by decide)
    have q4 : Pk W0 W W4 := q3.trans ((Pk.of_nb (Nat.le_of_lt hT3.lt) (alloc_nb _ _)).trans p4)
    go_wp2_with fail
    go_end0
    refine ⟨rfl, ?_, q4⟩
    rw [hX.out]
    simpa only [List.flatten_cons, List.flatten_nil, List.append_nil, List.append_assoc] using hT4
  by_cases hk6 : e.kind = 6
  · simp only [hk6, if_true, if_false, Int.reduceEq, true_or, or_true, or_self] at hg hX
    rw [Bool.and_eq_true] at hg
    have h6 := congrArg Hd.args (eqH_d hg.2)
    replace h6 : e.args.length = 2 := h6
    obtain ⟨x0, x1, hl⟩ : ∃ x0 x1, e.args = [x0, x1] := by
      match hq : e.args, h6 with
      | [a, b], _ => exact ⟨a, b, rfl⟩
    have hm0 : x0 ∈ e.args := by rw [hl]; simp
    have hm1 : x1 ∈ e.args := by rw [hl]; simp
    rw [hl] at hX
    simp only [txEs, List.getD_cons_zero, List.getD_cons_succ] at hX
    have hrow := he.exs.row
    rw [hv0, hl] at hrow
    obtain ⟨b0, o0, hb0, hx0c⟩ := hrow.at_ (i := 0) (r := x0.cells) rfl
    obtain ⟨b1', o1, hb1, hx1c⟩ := hrow.at_ (i := 1) (r := x1.cells) rfl
    obtain rfl := hb0
    obtain ⟨rfl, rfl⟩ : b0 = b1' ∧ o0 = o1 := by cases hb1; exact ⟨rfl, rfl⟩
    clear hb1 hrow
    simp only [h6] at hv0 ⊢
    
    replace hX := Lib.hid hX
    replace hlen := Lib.hid (show (t ++ X).length ≤ 140737488355328 from hlen)
    rw [hX.out] at hlen
    rw [hk6] at *
    clear hc
    go_enter Tryd.func69, Tryd.ntmps69
    go_upto_region 1 with (fail)
    obtain ⟨W1, hW1⟩ : ∃ W1, W.alloc (.cells #[.int .i64 6, .int .i64 e.at_, .int .i64 e.n, sV e.name, .slice (some ⟨b0, o0, none⟩) 2 cap0] 36) = W1 := ⟨_, rfl⟩
    have b1 : W1.heap[W.heap.size]? = some (.cells #[.int .i64 6, .int .i64 e.at_, .int .i64 e.n, sV e.name, .slice (some ⟨b0, o0, none⟩) 2 cap0] 36 (0, 0)) := by rw [← hW1]; exact new_blk _ _ rfl
    have n1 : Nb W W1 := by rw [← hW1]; exact alloc_nb _ _
    rw [hW1]
    have hT1 := hT.nb n1
    have hA1 := hW.trans n1
    have q1 : Pk W0 W W1 := Pk.of_nb (Nat.le_of_lt hlt) n1
    clear hW1 n1
    have y0 := cell_of_row _ _ 0 _ _ _ b1
    have y1 := cell_of_row _ _ 1 _ _ _ b1
    have y2 := cell_of_row _ _ 2 _ _ _ b1
    have y3 := cell_of_row _ _ 3 _ _ _ b1
    have y4 := cell_of_row _ _ 4 _ _ _ b1
    go_wp2_with fail
    refine (put_any W0 t [[40]] _ (hT1.nb (alloc_nb _ _)) _ (new_blk _ _ rfl) (by have := hT1.lt; omega) 1 (Nat.le_refl _) (by simp) (by have h := hlen.out; simp only [List.flatten_cons, List.flatten_nil, List.append_nil, List.length_append] at h ⊢; omega)).mono ?_
    rintro r W2 ⟨rfl, hT2, p2⟩
    have hA2 := Pk.nb (hA1.trans (alloc_nb _ _)) p2
    have b2 := p2.block (old_blk b1 _) (by omega) (by decide)
    have q2 : Pk W0 W W2 := q1.trans ((Pk.of_nb (Nat.le_of_lt hT1.lt) (alloc_nb _ _)).trans p2)
    have y0 := cell_of_row _ _ 0 _ _ _ b2
    have y1 := cell_of_row _ _ 1 _ _ _ b2
    have y2 := cell_of_row _ _ 2 _ _ _ b2
    have y3 := cell_of_row _ _ 3 _ _ _ b2
    have y4 := cell_of_row _ _ 4 _ _ _ b2
    have z0 := hA2.cell (hx0c 0 _ rfl)
    have z1 := hA2.cell (hx0c 1 _ rfl)
    have z2 := hA2.cell (hx0c 2 _ rfl)
    have z3 := hA2.cell (hx0c 3 _ rfl)
    have z4 := hA2.cell (hx0c 4 _ rfl)
    simp only [Nat.zero_mul, Nat.one_mul, Nat.add_zero] at z0 z1 z2 z3 z4
    go_wp2_with fail
    refine (ih x0 hm0 (he.exs.kids x0 hm0) (hgs x0 hm0) (t ++ [[40]].flatten) W2 hA2 hT2 (by have h := hlen.out; simp only [List.flatten_cons, List.flatten_nil, List.append_nil, List.length_append] at h ⊢; omega)).mono ?_
    rintro r W3 ⟨rfl, hT3, p3⟩
    have hA3 := Pk.nb hA2 p3
    have b3 := p3.block b2 (by omega) (by decide)
    have q3 : Pk W0 W W3 := q2.trans (p3)
    have y0 := cell_of_row _ _ 0 _ _ _ b3
    have y1 := cell_of_row _ _ 1 _ _ _ b3
    have y2 := cell_of_row _ _ 2 _ _ _ b3
    have y3 := cell_of_row _ _ 3 _ _ _ b3
    have y4 := cell_of_row _ _ 4 _ _ _ b3
    go_wp2_with fail
    refine (put_any W0 ((t ++ [[40]].flatten) ++ txE x0) [[32], e.name, [32]] _ (hT3.nb (alloc_nb _ _)) _ (new_blk _ _ rfl) (by have := hT3.lt; omega) 3 (Nat.le_refl _) (by simp) (by have h := hlen.out; simp only [List.flatten_cons, List.flatten_nil, List.append_nil, List.length_append] at h ⊢; omega)).mono ?_
    rintro r W4 ⟨rfl, hT4, p4⟩
    have hA4 := Pk.nb (hA3.trans (alloc_nb _ _)) p4
    have b4 := p4.block (old_blk b3 _) (by omega) (by decide)
    have q4 : Pk W0 W W4 := q3.trans ((Pk.of_nb (Nat.le_of_lt hT3.lt) (alloc_nb _ _)).trans p4)
    have y0 := cell_of_row _ _ 0 _ _ _ b4
    have y1 := cell_of_row _ _ 1 _ _ _ b4
    have y2 := cell_of_row _ _ 2 _ _ _ b4
    have y3 := cell_of_row _ _ 3 _ _ _ b4
    have y4 := cell_of_row _ _ 4 _ _ _ b4
    have z0 := hA4.cell (hx1c 0 _ rfl)
    have z1 := hA4.cell (hx1c 1 _ rfl)
    have z2 := hA4.cell (hx1c 2 _ rfl)
    have z3 := hA4.cell (hx1c 3 _ rfl)
    have z4 := hA4.cell (hx1c 4 _ rfl)
    simp only [Nat.zero_mul, Nat.one_mul, Nat.add_zero] at z0 z1 z2 z3 z4
    go_wp2_with fail
    refine (ih x1 hm1 (he.exs.kids x1 hm1) (hgs x1 hm1) (((t ++ [[40]].flatten) ++ txE x0) ++ [[32], e.name, [32]].flatten) W4 hA4 hT4 (by have h := hlen.out; simp only [List.flatten_cons, List.flatten_nil, List.append_nil, List.length_append] at h ⊢; omega)).mono ?_
    rintro r W5 ⟨rfl, hT5, p5⟩
    have hA5 := Pk.nb hA4 p5
    have b5 := p5.block b4 (by omega) (by decide)
    have q5 : Pk W0 W W5 := q4.trans (p5)
    have y0 := cell_of_row _ _ 0 _ _ _ b5
    have y1 := cell_of_row _ _ 1 _ _ _ b5
    have y2 := cell_of_row _ _ 2 _ _ _ b5
    have y3 := cell_of_row _ _ 3 _ _ _ b5
    have y4 := cell_of_row _ _ 4 _ _ _ b5
    go_wp2_with fail
    refine (put_any W0 ((((t ++ [[40]].flatten) ++ txE x0) ++ [[32], e.name, [32]].flatten) ++ txE x1) [[41]] _ (hT5.nb (alloc_nb _ _)) _ (new_blk _ _ rfl) (by have := hT5.lt; omega) 1 (Nat.le_refl _) (by simp) (by have h := hlen.out; simp only [List.flatten_cons, List.flatten_nil, List.append_nil, List.length_append] at h ⊢; omega)).mono ?_
    rintro r W6 ⟨rfl, hT6, p6⟩
    have hA6 := Pk.nb (hA5.trans (alloc_nb _ _)) p6
    have b6 := p6.block (old_blk b5 _) (by omega) (by decide)
    have q6 : Pk W0 W W6 := q5.trans ((Pk.of_nb (Nat.le_of_lt hT5.lt) (alloc_nb _ _)).trans p6)
    go_wp2_with fail
    go_end0
    refine ⟨rfl, ?_, q6⟩
    rw [hX.out]
    simpa only [List.flatten_cons, List.flatten_nil, List.append_nil, List.append_assoc] using hT6
  · simp only [hk1, hk2, hk3, hk4, hk5, hk6, if_false, or_self, Bool.false_eq_true] at hg
end Go.Proofs.YtojogolmcclpoaaDoor
