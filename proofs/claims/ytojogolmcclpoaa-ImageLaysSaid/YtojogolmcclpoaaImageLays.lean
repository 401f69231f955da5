/-
  Proved here: where all stands, of any config, code and slots, the code says as the reference says it. No condition.
-/
import Derived.Test.YtojogolmcclpoaaUf
import Derived.Test.YtojogolmcclpoaaUh
namespace Go.Proofs.Ytojogolmcclpoaa.imageLays
open Go.ChangeShapes Go.WideShapes Go.ChangeAt Go.RowKit Go.Sort Go.ChangeMaps
set_option linter.unusedVariables false
set_option linter.unusedSimpArgs false
set_option maxRecDepth 100000
set_option maxHeartbeats 4000000
theorem regrown_nbS {P : Program} {f : FuncId} {args : Array Value} {w : World} {d : Nat} {os : Array Obj} {v : Value}
    (h : Calls P f args (grow (redrawn w d) os) fun e w' => e = .returned v ∧ Nb (grow (redrawn w d) os) w') : Calls P f args (grow (redrawn w d) os) fun e w'' => e = .returned v ∧ ∃ p : Regrown, w'' = grow (redrawn w p.d) p.os :=
  Calls.regrown_of h
theorem ly_v (l : Ly) : l.v = .agg #[.int .u64 l.code, .int .u64 l.globals, .int .u64 l.actors, .int .u64 l.asize, .int .u64 l.blocks, .int .u64 l.bsize, .int .u64 l.stop, .int .i64 l.slots] := rfl
theorem walk (c : Cf) (code slots n : Int) (hc : c.In) (h1 : IR code) (h2 : IR slots) (h3 : IR n) (w : World) :
    Calls Try.prog 3 #[c.v, .int .i64 code, .int .i64 slots, .int .i64 n] w fun e w' => e = .returned (.bool true) ∧ Nb w w' := by
  have hlives := Lib.hid (fun w => lives_any w)
  have hlay := fun w => lay_any c code slots w
  have hrlay := fun w => rlay_any c code slots w
  have hg := fun w => good_any c w
  have hrg := fun w => rgood_any c w
  obtain ⟨G, hG⟩ : ∃ g, c.good = g := ⟨_, rfl⟩
  simp only [hG] at hg hrg
  obtain ⟨E, hE⟩ : ∃ g, layE c code slots = g := ⟨_, rfl⟩
  simp only [hE] at hlay hrlay
  obtain ⟨l, hl⟩ : ∃ g, layA c code slots = g := ⟨_, rfl⟩
  simp only [hl] at hlay hrlay
  clear hG hE hl
  obtain ⟨k, hk⟩ : ∃ k, wrap64 ((IntKind.u64.wrap n).tmod 100) = k := ⟨_, rfl⟩
  have hact := fun w => actor_any l k w
  have hblk := fun w => block_any l k w
  obtain ⟨x0, x1, x2, x3, x4⟩ := c
  obtain ⟨l0, l1, l2, l3, l4, l5, l6, l7⟩ := l
  change ∀ w, Calls Try.prog 7 #[.agg #[.int .i64 x0, .int .i64 x1, .int .i64 x2, .int .i64 x3, .int .i64 x4], .int .i64 code, .int .i64 slots] w fun e w' => e = .returned (.tuple #[.agg #[.int .u64 l0, .int .u64 l1, .int .u64 l2, .int .u64 l3, .int .u64 l4, .int .u64 l5, .int .u64 l6, .int .i64 l7], .int .i64 E]) ∧ Nb w w' at hlay
  change ∀ w, Calls Try.prog 8 #[.agg #[.int .i64 x0, .int .i64 x1, .int .i64 x2, .int .i64 x3, .int .i64 x4], .int .i64 code, .int .i64 slots] w fun e w' => e = .returned (.tuple #[.agg #[.int .u64 l0, .int .u64 l1, .int .u64 l2, .int .u64 l3, .int .u64 l4, .int .u64 l5, .int .u64 l6, .int .i64 l7], .int .i64 E]) ∧ Nb w w' at hrlay
  change ∀ w, Calls Try.prog 9 #[.agg #[.int .i64 x0, .int .i64 x1, .int .i64 x2, .int .i64 x3, .int .i64 x4]] w fun e w' => e = .returned (.bool G) ∧ Nb w w' at hg
  change ∀ w, Calls Try.prog 10 #[.agg #[.int .i64 x0, .int .i64 x1, .int .i64 x2, .int .i64 x3, .int .i64 x4]] w fun e w' => e = .returned (.bool G) ∧ Nb w w' at hrg
  change ∀ w, Calls Try.prog 11 #[.agg #[.int .u64 l0, .int .u64 l1, .int .u64 l2, .int .u64 l3, .int .u64 l4, .int .u64 l5, .int .u64 l6, .int .i64 l7], .int .i64 k] w fun e w' => e = .returned (.int .u64 (IntKind.u64.wrap (l2 + IntKind.u64.wrap (IntKind.u64.wrap k * l3)))) ∧ Nb w w' at hact
  change ∀ w, Calls Try.prog 12 #[.agg #[.int .u64 l0, .int .u64 l1, .int .u64 l2, .int .u64 l3, .int .u64 l4, .int .u64 l5, .int .u64 l6, .int .i64 l7], .int .i64 k] w fun e w' => e = .returned (.int .u64 (IntKind.u64.wrap (l4 + IntKind.u64.wrap (IntKind.u64.wrap k * l5)))) ∧ Nb w w' at hblk
  replace hlay := Lib.hid hlay
  replace hrlay := Lib.hid hrlay
  replace hg := Lib.hid hg
  replace hrg := Lib.hid hrg
  replace hact := Lib.hid hact
  replace hblk := Lib.hid hblk
  replace hk := Lib.hid hk
  clear hc h1 h2 h3
  show Calls Try.prog 3 #[.agg #[.int .i64 x0, .int .i64 x1, .int .i64 x2, .int .i64 x3, .int .i64 x4], .int .i64 code, .int .i64 slots, .int .i64 n] w _
  go_enter Try.func3, Try.ntmps3
  go_upto_region 1 with (fail)
  obtain ⟨W1, hW1⟩ : ∃ W1, w.alloc (.cells #[.int .i64 x0, .int .i64 x1, .int .i64 x2, .int .i64 x3, .int .i64 x4] 23) = W1 := ⟨_, rfl⟩
  have n1 : Nb w W1 := by rw [← hW1]; exact alloc_nb _ _
  have b1 : W1.heap[w.heap.size]? = some (.cells #[.int .i64 x0, .int .i64 x1, .int .i64 x2, .int .i64 x3, .int .i64 x4] 23 (0, 0)) := by rw [← hW1]; exact new_blk _ _ rfl
  rw [hW1]
  clear hW1
  obtain ⟨H, hH⟩ : ∃ H, w.heap.size = H := ⟨_, rfl⟩
  rw [hH] at b1 ⊢
  clear hH
  have c0 := cell_of_row _ _ 0 _ _ _ b1
  have c1 := cell_of_row _ _ 1 _ _ _ b1
  have c2 := cell_of_row _ _ 2 _ _ _ b1
  have c3 := cell_of_row _ _ 3 _ _ _ b1
  have c4 := cell_of_row _ _ 4 _ _ _ b1
  go_upto_region 2 with (go_at_call 7; refine (hlay.out _).mono ?_; rintro r w1 ⟨rfl, g1⟩)
  obtain ⟨W2, hW2⟩ : ∃ W2, w1.alloc (.cells #[.int .u64 l0, .int .u64 l1, .int .u64 l2, .int .u64 l3, .int .u64 l4, .int .u64 l5, .int .u64 l6, .int .i64 l7] 26) = W2 := ⟨_, rfl⟩
  have n2 : Nb W1 W2 := by rw [← hW2]; exact g1.trans (alloc_nb _ _)
  have b2 : W2.heap[w1.heap.size]? = some (.cells #[.int .u64 l0, .int .u64 l1, .int .u64 l2, .int .u64 l3, .int .u64 l4, .int .u64 l5, .int .u64 l6, .int .i64 l7] 26 (0, 0)) := by rw [← hW2]; exact new_blk _ _ rfl
  rw [hW2]
  clear hW2
  obtain ⟨H1, hH1⟩ : ∃ H, w1.heap.size = H := ⟨_, rfl⟩
  rw [hH1] at b2 ⊢
  clear hH1 c0 c1 c2 c3 c4
  replace b1 := n2.block b1
  replace n1 := n1.trans n2
  clear n2 g1
  have c0 := cell_of_row _ _ 0 _ _ _ b1
  have c1 := cell_of_row _ _ 1 _ _ _ b1
  have c2 := cell_of_row _ _ 2 _ _ _ b1
  have c3 := cell_of_row _ _ 3 _ _ _ b1
  have c4 := cell_of_row _ _ 4 _ _ _ b1
  go_upto_region 3 with (go_at_call 8; refine (hrlay.out _).mono ?_; rintro r w3 ⟨rfl, g3⟩)
  obtain ⟨W4, hW4⟩ : ∃ W4, w3.alloc (.cells #[.int .u64 l0, .int .u64 l1, .int .u64 l2, .int .u64 l3, .int .u64 l4, .int .u64 l5, .int .u64 l6, .int .i64 l7] 26) = W4 := ⟨_, rfl⟩
  have n4 : Nb W2 W4 := by rw [← hW4]; exact g3.trans (alloc_nb _ _)
  have b4 : W4.heap[w3.heap.size]? = some (.cells #[.int .u64 l0, .int .u64 l1, .int .u64 l2, .int .u64 l3, .int .u64 l4, .int .u64 l5, .int .u64 l6, .int .i64 l7] 26 (0, 0)) := by rw [← hW4]; exact new_blk _ _ rfl
  rw [hW4]
  clear hW4
  obtain ⟨H2, hH2⟩ : ∃ H, w3.heap.size = H := ⟨_, rfl⟩
  rw [hH2] at b4 ⊢
  clear hH2 c0 c1 c2 c3 c4
  replace b1 := n4.block b1
  replace b2 := n4.block b2
  replace n1 := n1.trans n4
  clear n4 g3
  go_upto_region 4 with (fail)
  rw [hk.out]
  have c0 := cell_of_row _ _ 0 _ _ _ b1
  have rc0 := cell_regrown c0
  have c1 := cell_of_row _ _ 1 _ _ _ b1
  have rc1 := cell_regrown c1
  have c2 := cell_of_row _ _ 2 _ _ _ b1
  have rc2 := cell_regrown c2
  have c3 := cell_of_row _ _ 3 _ _ _ b1
  have rc3 := cell_regrown c3
  have c4 := cell_of_row _ _ 4 _ _ _ b1
  have rc4 := cell_regrown c4
  have z0 := cell_of_row _ _ 0 _ _ _ b2
  have rz0 := cell_regrown z0
  have z1 := cell_of_row _ _ 1 _ _ _ b2
  have rz1 := cell_regrown z1
  have z2 := cell_of_row _ _ 2 _ _ _ b2
  have rz2 := cell_regrown z2
  have z3 := cell_of_row _ _ 3 _ _ _ b2
  have rz3 := cell_regrown z3
  have z4 := cell_of_row _ _ 4 _ _ _ b2
  have rz4 := cell_regrown z4
  have z5 := cell_of_row _ _ 5 _ _ _ b2
  have rz5 := cell_regrown z5
  have z6 := cell_of_row _ _ 6 _ _ _ b2
  have rz6 := cell_regrown z6
  have z7 := cell_of_row _ _ 7 _ _ _ b2
  have rz7 := cell_regrown z7
  have y0 := cell_of_row _ _ 0 _ _ _ b4
  have ry0 := cell_regrown y0
  have y1 := cell_of_row _ _ 1 _ _ _ b4
  have ry1 := cell_regrown y1
  have y2 := cell_of_row _ _ 2 _ _ _ b4
  have ry2 := cell_regrown y2
  have y3 := cell_of_row _ _ 3 _ _ _ b4
  have ry3 := cell_regrown y3
  have y4 := cell_of_row _ _ 4 _ _ _ b4
  have ry4 := cell_regrown y4
  have y5 := cell_of_row _ _ 5 _ _ _ b4
  have ry5 := cell_regrown y5
  have y6 := cell_of_row _ _ 6 _ _ _ b4
  have ry6 := cell_regrown y6
  have y7 := cell_of_row _ _ 7 _ _ _ b4
  have ry7 := cell_regrown y7
  clear c0 c1 c2 c3 c4 z0 z1 z2 z3 z4 z5 z6 z7 y0 y1 y2 y3 y4 y5 y6 y7
  have hgR := Lib.hid (fun (d : Nat) (os : Array Obj) => hg.out (grow (redrawn W4 d) os))
  have hrgR := Lib.hid (fun (d : Nat) (os : Array Obj) => hrg.out (grow (redrawn W4 d) os))
  have hactR := Lib.hid (fun (d : Nat) (os : Array Obj) => hact.out (grow (redrawn W4 d) os))
  have hblkR := Lib.hid (fun (d : Nat) (os : Array Obj) => hblk.out (grow (redrawn W4 d) os))
  have hlivesR := Lib.hid (fun (d : Nat) (os : Array Obj) => hlives.out (grow (redrawn W4 d) os))
  refine wp_region_quiet_below (by kernel_rfl) (by kernel_rfl) ?_
  repeat (quiet_step ((first | (go_at_call 9; with_reducible exact regrown_nbS (hgR.out _ _)) | (go_at_call 10; with_reducible exact regrown_nbS (hrgR.out _ _)) | (go_at_call 11; with_reducible exact regrown_nbS (hactR.out _ _)) | (go_at_call 12; with_reducible exact regrown_nbS (hblkR.out _ _)) | (go_at_call 13; with_reducible exact regrown_nbS (hlivesR.out _ _)))))
  refine wpQuiet_nil ?_
  intro w5 hw'
  obtain ⟨⟨dq, osq⟩, hw''⟩ := hw'
  have n5 : Nb W4 w5 := by rw [hw'']; exact below_regrown W4 dq osq
  clear hw''
  go_wp2_with fail
  go_ret
  exact ⟨rfl, n1.trans n5⟩
/-! The row's step. -/
set_option maxRecDepth 100000 in
set_option maxHeartbeats 1000000 in
theorem lifted (os : Os) (started : os.Started) (H : Type) (enc : TypeId × Value → H) :
    ReturnsInHanded {} Try.checked os 3 .any (Rows.imageLaysSpec.pre6 enc Try.prog Try.f3 Rows.imageLaysRow.domain false)
      (Rows.imageLaysSpec.post enc Try.prog Try.f3 false true false false) := by
  refine returnsInHanded_of_change (C := Try.checked) own started (by kernel_rfl) Try.func3
    (ChangeSpec.witness6 (enc := enc) (C := Try.checked) false ⟨#[], #[.agg #[.int .i64 0, .int .i64 0, .int .i64 0, .int .i64 0, .int .i64 0], .int .i64 0, .int .i64 0, .int .i64 0], []⟩ 8 (by kernel_rfl) (by kernel_rfl) (by kernel_rfl) (by kernel_rfl)) ?_
  intro W base args ds gs before hval0 hW _ _
  have hval : ∀ (j : Nat) t v, Try.f3.params[j]? = some t → args[j]? = some v → Value.okWide Try.prog W .any base t v := hval0
  have hW' := hW
  obtain ⟨p, q, hA0, hV, rfl, hfz, hnd⟩ := hW
  have hA1 : DataW.TrodAll enc Try.prog W 0 (fun _ => true) true Try.f3.params.toList args.toList ds p := hA0
  have hA := hA1
  rw [Try.params3] at hA hval
  obtain ⟨v0, vs0, d0, ds0, p0, q0, hargs0, rfl, -, h0, r0⟩ := trodAll_cons hA
  obtain ⟨v1, vs1, d1, ds1, p1, q1, hargs1, rfl, -, h1, r1⟩ := trodAll_cons r0
  obtain ⟨v2, vs2, d2, ds2, p2, q2, hargs2, rfl, -, h2, r2⟩ := trodAll_cons r1
  obtain ⟨v3, vs3, d3, ds3, p3, q3, hargs3, rfl, -, h3, r3⟩ := trodAll_cons r2
  obtain ⟨rfl, rfl, -⟩ := trodAll_nil r3
  obtain rfl : args = #[v0, v1, v2, v3] := by cases args; simp_all
  obtain ⟨rfl, rfl⟩ := trodVars_none hV
  obtain ⟨q0, rfl, w0⟩ := open_conf (hval 0 23 v0 rfl rfl) h0
  obtain ⟨n1, rfl, -, -, w1⟩ := open_int Try.underlying3 (hval 1 3 v1 rfl rfl) h1
  obtain ⟨n2, rfl, -, -, w2⟩ := open_int Try.underlying3 (hval 2 3 v2 rfl rfl) h2
  obtain ⟨n3, rfl, -, -, w3⟩ := open_int Try.underlying3 (hval 3 3 v3 rfl rfl) h3
  clear hval0
  simp only [List.append_nil] at hW'
  refine (walk q0 n1 n2 n3 w0 (i64_of w1) (i64_of w2) (i64_of w3) W ).mono fun e W' ⟨he, hg⟩ => ?_
  subst he
  exact ⟨_, rfl, post_of_nb (pa := p) (pv := []) hW' (fun _ _ _ => (trodAll_cons_mk (shut_bool Try.underlying4 _) trodAll_mk0))
    (fun sp hsp => args_stay (by kernel_rfl) hg hA1 (fun t ht => by
      have h0 : (Try.f3.params.toList.all fun t => Try.prog.readableRec t && decide (t < Try.prog.types.size)) = true := by kernel_rfl
      have h1 := List.all_eq_true.1 h0 t ht
      rw [Bool.and_eq_true, decide_eq_true_eq] at h1
      exact h1) (fun x hx => hW'.lt x hx) hsp)
    (fun _ _ => rfl) (by simp) hg (ok_one (by kernel_rfl) rfl (okWide_bool_mk Try.underlying4 _))⟩
theorem over : Rows.imageLaysRow.holds Try.pinned (OpenSpec.ofChange Rows.imageLaysSpec) :=
  OpenClaim.holds_of_wide 3 Try.f3 rfl rfl rfl rfl rfl rfl rfl ⟨rfl, rfl, rfl, rfl, rfl⟩ rfl rfl rfl rfl rfl (by kernel_rfl) Try.func3 (by kernel_rfl)
    (of_decide_eq_true (by kernel_rfl)) (by unfold Func.isWrapper; first | (rw [if_pos (by decide +kernel)]; kernel_rfl) | (rw [if_neg (by decide +kernel)]; exact ⟨rfl, rfl⟩))
    (fun os started H enc _ => lifted os started H enc)
/-- The statement. -/
theorem proved : Rows.ImageLaysSaid := over
#print axioms proved
end Go.Proofs.Ytojogolmcclpoaa.imageLays
