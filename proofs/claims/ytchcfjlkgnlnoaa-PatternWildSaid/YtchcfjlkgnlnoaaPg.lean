/-
  Proved here: the part of a value at a path; whether a test fits. Conditions: the memory holds the value and the path.
-/
import Derived.Test.YtchcfjlkgnlnoaaPf
namespace Go.Proofs.Ytchcfjlkgnlnoaa
open Go.RowKit Go.ChangeMaps
set_option linter.unusedVariables false
set_option linter.unusedSimpArgs false
set_option maxRecDepth 100000
set_option maxHeartbeats 4000000
theorem results_rt {fn : Func} {p u : Tmp} {ty : TypeId} {P : Program} (h : fn.results = #[.cell p ty, .tmp u]) (tmps : Array Value) (w : World) (g : Nat) (cs : Array Value)
    (hp : tmps.getD p undef = .pointer (some ⟨g, 0, none⟩)) (hl : (loadVar ty ⟨g, 0, none⟩).run P w = .ok (.agg cs) w) :
    (results fn tmps).run P w = .ok (.tuple #[.agg cs, tmps.getD u undef]) w := by
  rw [results_cell_tmp h, hp]
  have e : (asAddr (.pointer (some ⟨g, 0, none⟩))).run P w = .ok ⟨g, 0, none⟩ w := rfl
  rw [e]
  simp only [Result.andThen_ok, hl]
theorem set3P {w : World} {n : Nat} {t : TypeId} {a b c x y z : Value} (h : w.heap[n]? = some (.cells #[a, b, c] t (0, 0))) :
    (((w.setCell ⟨n, 0, none⟩ x).setCell ⟨n, 1, none⟩ y).setCell ⟨n, 2, none⟩ z).heap[n]? = some (.cells #[x, y, z] t (0, 0)) := by
  have h1 := heap_setCell_same w n 0 _ _ x h
  have h2 := heap_setCell_same _ n 1 _ _ y h1
  have h3 := heap_setCell_same _ n 2 _ _ z h2
  simpa using h3
theorem set3_off {w : World} {n m : Nat} {x y z : Value} (h : m ≠ n) : (((w.setCell ⟨n, 0, none⟩ x).setCell ⟨n, 1, none⟩ y).setCell ⟨n, 2, none⟩ z).heap[m]? = w.heap[m]? := by
  rw [heap_setCell_other _ _ _ _ h, heap_setCell_other _ _ _ _ h, heap_setCell_other _ _ _ _ h]
theorem set3_nb {w0 w : World} (h : Nb w0 w) {n : Nat} (hn : w0.heap.size ≤ n) (x y z : Value) : Nb w0 (((w.setCell ⟨n, 0, none⟩ x).setCell ⟨n, 1, none⟩ y).setCell ⟨n, 2, none⟩ z) :=
  ((h.setCell (p := ⟨n, 0, none⟩) hn _).setCell (p := ⟨n, 1, none⟩) hn _).setCell (p := ⟨n, 2, none⟩) hn _
/-- The part of a value at a path. -/
def Vl.atP : Vl → List Int → Option Vl
  | v, [] => some v
  | v, i :: r => if i < 0 then none else match v.args[i.toNat]? with
    | none => none
    | some x => Vl.atP x r
/-- What is told of a part. -/
def atR : Option Vl → Value
  | none => .tuple #[.agg #[.int .i64 0, .int .i64 0, .slice none 0 0], .bool false]
  | some x => .tuple #[.agg x.cells.toArray, .bool true]
/-- The boxes of who goes along a path. -/
structure AtI (w : World) (V R : Nat) (x : Vl) (wr : World) : Prop where
  nb : Nb w wr
  bV : wr.heap[V]? = some (.cells x.cells.toArray 31 (0, 0))
  bR : wr.heap[R]? = some (.cells #[.int .i64 0, .int .i64 0, .slice none 0 0] 31 (0, 0))
theorem vl_lit {w : World} {x : Vl} (h : x.Has w) : ∃ (A : Option Addr) (L c : Nat), x.args.length = L ∧ x.av = .slice A L c ∧ x.cells.toArray = #[.int .i64 x.kind, .int .i64 x.n, .slice A L c] := by
  obtain ⟨A, c, e, -, -, -⟩ := h.vls.head
  exact ⟨A, _, c, rfl, e, by rw [← e]; rfl⟩
theorem atP_has {w : World} : ∀ (path : List Int) (v x : Vl), v.Has w → v.atP path = some x → x.Has w
  | [], v, x, h, e => by simp only [Vl.atP, Option.some.injEq] at e; rw [← e]; exact h
  | i :: r, v, x, h, e => by
    rw [Vl.atP] at e
    split at e
    · cases e
    · split at e
      · cases e
      · rename_i y hy
        exact atP_has r y x (h.vls.kids y (List.mem_of_getElem? hy)) e
theorem At_any (W0 : World) (v : Vl) (hv : v.Has W0) (pv : Value) (path : List Int) (hp : IntR W0 pv path) (w : World) (hw : Nb W0 w) :
    Calls Try.prog 18 #[.agg v.cells.toArray, pv] w fun r w' => r = .returned (atR (v.atP path)) ∧ Nb w w' := by
  obtain ⟨A2, c2, rfl, hcap, hlen, hA⟩ := hp.head
  rw [List.length_map] at hcap hlen hp ⊢
  obtain ⟨N, hN⟩ : ∃ N, path.length = N := ⟨_, rfl⟩
  have hNh := Lib.hid hN
  rw [hN] at hcap hlen hp ⊢
  clear hN
  replace hp := Lib.hid hp
  obtain ⟨A, L, c, hL, hav, hcs⟩ := vl_lit hv
  obtain ⟨T, hT⟩ : ∃ T, v.atP path = T := ⟨_, rfl⟩
  rw [hT]
  have hR0 : Hid (v.atP (path.drop 0) = T ∧ v.Has W0) := Lib.hid ⟨by rw [List.drop_zero]; exact hT, hv⟩
  rw [hcs]
  have hcs0 := Lib.hid hcs
  clear hT hcs hav hv hL
  go_enter Try.func18, Try.ntmps18
  go_upto_region 1 with (fail)
  obtain ⟨W1, hW1⟩ : ∃ W1, (w.alloc (Obj.cells #[.int .i64 v.kind, .int .i64 v.n, .slice A L c] 31)).alloc (Obj.cells #[.int .i64 0, .int .i64 0, .slice none 0 0] 31) = W1 := ⟨_, rfl⟩
  have hI : Hid (AtI w w.heap.size (w.heap.size + 1) v W1) := Lib.hid ⟨by rw [← hW1]; exact ((Nb.refl w).alloc _).alloc _, by rw [← hW1, hcs0.out]; exact old_blk (new_blk _ _ rfl) _, by rw [← hW1]; exact new_blk _ _ (by simp)⟩
  rw [hW1]
  clear hW1
  obtain ⟨V, hV⟩ : ∃ V, w.heap.size = V := ⟨_, rfl⟩
  rw [hV] at hI ⊢
  obtain ⟨R, hR⟩ : ∃ R, V + 1 = R := ⟨_, rfl⟩
  rw [hR] at hI ⊢
  have hVR : V ≠ R := by omega
  have hVw : w.heap.size ≤ V := by omega
  have hRw : w.heap.size ≤ R := by omega
  clear hV hR hcs0
  go_wp2_with fail
  go_loopw [10] (fun si wr => ∃ (i : Nat) (x : Vl), i ≤ N ∧ si = .int .i64 i ∧ Hid (x.atP (path.drop i) = T ∧ x.Has W0) ∧ Hid (AtI w V R x wr)) (fun si _ => N - (intOf si).toNat)
  case atStart => exact ⟨0, v, Nat.zero_le _, rfl, hR0, hI⟩
  case round =>
    obtain ⟨i, x, hi, rfl, hRx, hJ⟩ := hrel
    clear hR0 hI
    obtain ⟨Ax, Lx, cx, hLx, hax, hcx⟩ := vl_lit hRx.out.2
    have bV := hJ.out.bV
    rw [hcx] at bV
    have bR := hJ.out.bR
    have v0 := cell_of_row _ _ 0 _ _ _ bV
    have v1 := cell_of_row _ _ 1 _ _ _ bV
    have v2 := cell_of_row _ _ 2 _ _ _ bV
    have f0 := frozen_blk bR 0
    have f1 := frozen_blk bR 1
    have f2 := frozen_blk bR 2
    have r0 := cell_of_row _ _ 0 _ _ _ bR
    have r1 := cell_of_row _ _ 1 _ _ _ bR
    have r2 := cell_of_row _ _ 2 _ _ _ bR
    by_cases hlt : i < N
    · have hlt2 : (i : Int) < (N : Int) := by omega
      obtain ⟨q, hq⟩ : ∃ q, path[i]? = some q := ⟨_, List.getElem?_eq_getElem (by rw [hNh.out]; exact hlt)⟩
      obtain ⟨b', o', rfl, hrow⟩ := hp.out.at_ (i := i) (r := [.int .i64 q]) (by rw [List.getElem?_map, hq]; rfl)
      have c0 := (hw.trans hJ.out.nb).cell (hrow 0 _ rfl)
      simp only [Nat.mul_one, Nat.add_zero] at c0
      have hstep := hRx.out.1
      rw [drop_some hq, Vl.atP] at hstep
      by_cases hq0 : q < 0
      · rw [if_pos hq0] at hstep
        subst hstep
        have hfin := Lib.hid (set3_nb hJ.out.nb hRw (.int .i64 0) (.int .i64 0) (.slice none 0 0))
        clear hrow hq hRx hJ
        go_wp2_with fail
        refine bodyPost_ret (results_rt rfl _ _ R _ rfl (run_loadVar_row _ _ _ _ _ _ _ (set3P bR) Try.underlying31 rfl (by kernel_rfl))) rfl ?_
        exact ⟨rfl, hfin.out⟩
      · rw [if_neg hq0] at hstep
        by_cases hqL : (Lx : Int) ≤ q
        · rw [List.getElem?_eq_none (by omega)] at hstep
          replace hstep : none = T := hstep
          subst hstep
          have hfin := Lib.hid (set3_nb hJ.out.nb hRw (.int .i64 0) (.int .i64 0) (.slice none 0 0))
          clear hrow hq hRx hJ
          go_wp2_with fail
          refine bodyPost_ret (results_rt rfl _ _ R _ rfl (run_loadVar_row _ _ _ _ _ _ _ (set3P bR) Try.underlying31 rfl (by kernel_rfl))) rfl ?_
          exact ⟨rfl, hfin.out⟩
        · obtain ⟨j, hj⟩ : ∃ j : Nat, q = (j : Int) := ⟨q.toNat, by omega⟩
          subst hj
          have hjL : j < Lx := by omega
          obtain ⟨y, hy⟩ : ∃ y, x.args[j]? = some y := ⟨_, List.getElem?_eq_getElem (by omega)⟩
          rw [show ((j : Int)).toNat = j by omega, hy] at hstep
          replace hstep : y.atP (path.drop (i + 1)) = T := hstep
          have hvl : VlsHas W0 (.slice Ax Lx cx) x.args := by rw [← hax]; exact hRx.out.2.vls
          obtain ⟨b'', o'', rfl, ⟨y0, y1, y2⟩, hyh⟩ := hvl.at_ hy
          obtain ⟨Ay, Ly, cy, hLy, hay, hcy⟩ := vl_lit hyh
          rw [hay] at y2
          have hnb := hw.trans hJ.out.nb
          replace y0 := hnb.cell y0
          replace y1 := hnb.cell y1
          replace y2 := hnb.cell y2
          have g0 := frozen_blk bV 0
          have g1 := frozen_blk bV 1
          have g2 := frozen_blk bV 2
          have hRn : Hid (y.atP (path.drop (i + 1)) = T ∧ y.Has W0) := Lib.hid ⟨hstep, hyh⟩
          have hJn : Hid (AtI w V R y (((wr.setCell ⟨V, 0, none⟩ (.int .i64 y.kind)).setCell ⟨V, 1, none⟩ (.int .i64 y.n)).setCell ⟨V, 2, none⟩ (.slice Ay Ly cy))) := Lib.hid ⟨set3_nb hJ.out.nb hVw _ _ _, by rw [hcy]; exact set3P bV, (set3_off (Ne.symm hVR)).trans bR⟩
          clear hrow hq hRx hJ hvl hy hstep hyh hay hcy hnb hcx hax bV bR
          go_wp2_with fail
          exact ⟨⟨i + 1, y, by omega, by simp, hRn, hJn⟩, by simp [intOf] <;> omega⟩
    · obtain rfl : i = N := by omega
      have hend := hRx.out.1
      rw [List.drop_eq_nil_of_le (by rw [hNh.out]; exact Nat.le_refl _), Vl.atP] at hend
      subst hend
      have hfin := Lib.hid (set3_nb hJ.out.nb hRw (.int .i64 x.kind) (.int .i64 x.n) (.slice Ax Lx cx))
      have hlt2 : ¬ (i : Int) < (i : Int) := by omega
      have hat : Hid (atR (some x) = .tuple #[.agg #[.int .i64 x.kind, .int .i64 x.n, .slice Ax Lx cx], .bool true]) := Lib.hid (by show Value.tuple #[.agg x.cells.toArray, .bool true] = _; rw [hcx])
      clear hRx hJ hcx hax
      go_wp2_with fail
      refine bodyPost_ret (results_rt rfl _ _ R _ rfl (run_loadVar_row _ _ _ _ _ _ _ (set3P bR) Try.underlying31 rfl (by kernel_rfl))) rfl ?_
      exact ⟨by rw [hat.out]; rfl, hfin.out⟩
end Go.Proofs.Ytchcfjlkgnlnoaa
