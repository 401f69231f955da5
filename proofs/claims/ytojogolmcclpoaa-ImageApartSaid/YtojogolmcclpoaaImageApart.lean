/-
  Proved here: globals, records and blocks stand one behind the other, on multiples of 8, within the end, by the code's Lay. No condition.
-/
import Derived.Test.YtojogolmcclpoaaUf
import Derived.Test.YtojogolmcclpoaaUh
namespace Go.Proofs.Ytojogolmcclpoaa.imageApart
open Go.ChangeShapes Go.WideShapes Go.ChangeAt Go.RowKit Go.Sort Go.ChangeMaps
set_option linter.unusedVariables false
set_option linter.unusedSimpArgs false
set_option maxRecDepth 100000
set_option maxHeartbeats 4000000
theorem layE_or (c : Cf) (code slots : Int) : layE c code slots = 0 ∨ layE c code slots = 2 := by unfold layE; split <;> simp
theorem ok_of {c : Cf} {code slots : Int} (h : layE c code slots = 0) : okL c code slots = true := by
  unfold layE at h
  split at h
  · assumption
  · cases h
theorem ly_v (l : Ly) : l.v = .agg #[.int .u64 l.code, .int .u64 l.globals, .int .u64 l.actors, .int .u64 l.asize, .int .u64 l.blocks, .int .u64 l.bsize, .int .u64 l.stop, .int .i64 l.slots] := rfl
/-- A number modulo another one, as the law reckons it. -/
theorem mod_k (n : Int) (m : Nat) (hm : 1 ≤ m) (hm2 : m ≤ 1000) : ∃ k : Nat, wrap64 ((IntKind.u64.wrap n).tmod (m : Int)) = (k : Int) ∧ k < m := by
  have h0 : 0 ≤ IntKind.u64.wrap n := by rw [IntKind.wrap_u64]; omega
  rw [Int.tmod_eq_emod_of_nonneg h0]
  have h1 : 0 ≤ IntKind.u64.wrap n % (m : Int) := Int.emod_nonneg _ (by omega)
  have h2 : IntKind.u64.wrap n % (m : Int) < (m : Int) := Int.emod_lt_of_pos _ (by omega)
  refine ⟨(IntKind.u64.wrap n % (m : Int)).toNat, ?_, by omega⟩
  unfold wrap64
  omega
theorem regrown_nbS {P : Program} {f : FuncId} {args : Array Value} {w : World} {d : Nat} {os : Array Obj} {v : Value}
    (h : Calls P f args (grow (redrawn w d) os) fun e w' => e = .returned v ∧ Nb (grow (redrawn w d) os) w') : Calls P f args (grow (redrawn w d) os) fun e w'' => e = .returned v ∧ ∃ p : Regrown, w'' = grow (redrawn w p.d) p.os :=
  Calls.regrown_of h
theorem walk (c : Cf) (code slots i k : Int) (hc : c.In) (h1 : IR code) (h2 : IR slots) (h3 : IR i) (h4 : IR k) (w : World) :
    Calls Try.prog 5 #[c.v, .int .i64 code, .int .i64 slots, .int .i64 i, .int .i64 k] w fun e w' => e = .returned (.bool true) ∧ Nb w w' := by
  have hlives := Lib.hid (fun w => lives_any w)
  cases hok : okL c code slots with
  | false =>
    have hlay := fun w => lay_any c code slots w
    rw [show layE c code slots = 2 by unfold layE; rw [hok]; rfl, show layA c code slots = Ly.zero by unfold layA; rw [hok]; rfl] at hlay
    obtain ⟨x0, x1, x2, x3, x4⟩ := c
    change ∀ w, Calls Try.prog 7 #[.agg #[.int .i64 x0, .int .i64 x1, .int .i64 x2, .int .i64 x3, .int .i64 x4], .int .i64 code, .int .i64 slots] w fun e w' => e = .returned (.tuple #[.agg #[.int .u64 0, .int .u64 0, .int .u64 0, .int .u64 0, .int .u64 0, .int .u64 0, .int .u64 0, .int .i64 0], .int .i64 2]) ∧ Nb w w' at hlay
    replace hlay := Lib.hid hlay
    show Calls Try.prog 5 #[.agg #[.int .i64 x0, .int .i64 x1, .int .i64 x2, .int .i64 x3, .int .i64 x4], .int .i64 code, .int .i64 slots, .int .i64 i, .int .i64 k] w _
    go_enter Try.func5, Try.ntmps5
    go_upto_region 1 with (fail)
    obtain ⟨W1, hW1⟩ : ∃ W1, w.alloc (.cells #[.int .i64 x0, .int .i64 x1, .int .i64 x2, .int .i64 x3, .int .i64 x4] 23) = W1 := ⟨_, rfl⟩
    have n1 : Nb w W1 := by rw [← hW1]; exact alloc_nb _ _
    have b1 : W1.heap[w.heap.size]? = some (.cells #[.int .i64 x0, .int .i64 x1, .int .i64 x2, .int .i64 x3, .int .i64 x4] 23 (0, 0)) := by rw [← hW1]; exact new_blk _ _ rfl
    rw [hW1]
    clear hW1
    have c0 := cell_of_row _ _ 0 _ _ _ b1
    have c1 := cell_of_row _ _ 1 _ _ _ b1
    have c2 := cell_of_row _ _ 2 _ _ _ b1
    have c3 := cell_of_row _ _ 3 _ _ _ b1
    have c4 := cell_of_row _ _ 4 _ _ _ b1
    go_upto_region 2 with (go_at_call 7; refine (hlay.out _).mono ?_; rintro r w1 ⟨rfl, g1⟩)
    obtain ⟨W2, hW2⟩ : ∃ W2, w1.alloc (.cells #[.int .u64 0, .int .u64 0, .int .u64 0, .int .u64 0, .int .u64 0, .int .u64 0, .int .u64 0, .int .i64 0] 26) = W2 := ⟨_, rfl⟩
    have n2 : Nb W1 W2 := by rw [← hW2]; exact g1.trans (alloc_nb _ _)
    have b2 : W2.heap[w1.heap.size]? = some (.cells #[.int .u64 0, .int .u64 0, .int .u64 0, .int .u64 0, .int .u64 0, .int .u64 0, .int .u64 0, .int .i64 0] 26 (0, 0)) := by rw [← hW2]; exact new_blk _ _ rfl
    rw [hW2]
    clear hW2
    obtain ⟨H1, hH1⟩ : ∃ H, w1.heap.size = H := ⟨_, rfl⟩
    rw [hH1] at b2 ⊢
    clear hH1 c0 c1 c2 c3 c4 b1
    have n3 := n1.trans n2
    have z0 := cell_of_row _ _ 0 _ _ _ b2
    have z1 := cell_of_row _ _ 1 _ _ _ b2
    have z2 := cell_of_row _ _ 2 _ _ _ b2
    have z3 := cell_of_row _ _ 3 _ _ _ b2
    have z4 := cell_of_row _ _ 4 _ _ _ b2
    have z5 := cell_of_row _ _ 5 _ _ _ b2
    have z6 := cell_of_row _ _ 6 _ _ _ b2
    have z7 := cell_of_row _ _ 7 _ _ _ b2
    go_wp2_with (go_at_call 13; refine (hlives.out _).mono ?_; rintro r w2 ⟨rfl, g2⟩)
    go_ret
    exact ⟨rfl, n3.trans g2⟩
  | true =>
    obtain ⟨C, S, A, B, W, x0, x4, rfl, rfl, rfl, -, hC, hS, hA, hB, hW⟩ := okL_nat hok
    have hlay := fun w => lay_any ⟨x0, A, B, W, x4⟩ C S w
    rw [show layE ⟨x0, A, B, W, x4⟩ C S = 0 by unfold layE; rw [hok]; rfl, show layA ⟨x0, A, B, W, x4⟩ C S = layN C S A B W by unfold layA; rw [hok]; rfl] at hlay
    have hprod : 8 * (12 + S + 2 * W) * A ≤ 18528 * 64 := Nat.mul_le_mul (by omega) hA.2
    obtain ⟨az, has⟩ : ∃ n, 8 * (12 + S + 2 * W) = n := ⟨_, rfl⟩
    obtain ⟨aa, haa⟩ : ∃ n, az * A = n := ⟨_, rfl⟩
    obtain ⟨g, hgl⟩ : ∃ n, (4 * C + 63) / 64 * 64 = n := ⟨_, rfl⟩
    obtain ⟨bb, hbb⟩ : ∃ n, g + 64 + aa = n := ⟨_, rfl⟩
    have hg1 : 4 * C ≤ g := by omega
    have hg2 : g ≤ 300000 := by omega
    have hg3 : g % 64 = 0 := by omega
    have hly : (layN C S A B W).v = .agg #[.int .u64 0, .int .u64 (g : Int), .int .u64 ((g : Int) + 64), .int .u64 (az : Int), .int .u64 (bb : Int), .int .u64 256, .int .u64 ((bb : Int) + 256 * (B : Int)), .int .i64 (S : Int)] := by
      unfold layN
      rw [has, haa, hgl, hbb]
      simp [Ly.v, Ly.cells]
    rw [has, haa] at hprod
    rw [hly] at hlay
    have haz : az % 8 = 0 := by omega
    have haa8 : aa % 8 = 0 := by rw [← haa, Nat.mul_mod, haz, Nat.zero_mul]
    clear hly hgl
    obtain ⟨ka, hka, hka2⟩ := mod_k i A hA.1 (by omega)
    obtain ⟨kb, hkb, hkb2⟩ := mod_k k B hB.1 (by omega)
    have hkaz : ka * az + az ≤ aa := by rw [← haa, ← Nat.succ_mul, Nat.mul_comm az A]; exact Nat.mul_le_mul (by omega) (Nat.le_refl _)
    obtain ⟨kz, hkz⟩ : ∃ n, ka * az = n := ⟨_, rfl⟩
    have hkz8 : kz % 8 = 0 := by rw [← hkz, Nat.mul_mod, haz, Nat.mul_zero]
    rw [hkz] at hkaz
    have hact := fun w => actor_any ⟨0, g, (g : Int) + 64, az, bb, 256, (bb : Int) + 256 * (B : Int), S⟩ ka w
    have hblk := fun w => block_any ⟨0, g, (g : Int) + 64, az, bb, 256, (bb : Int) + 256 * (B : Int), S⟩ kb w
    rw [show wU (Ly.actors ⟨0, g, (g : Int) + 64, az, bb, 256, (bb : Int) + 256 * (B : Int), S⟩ + wU (wU (ka : Int) * Ly.asize ⟨0, g, (g : Int) + 64, az, bb, 256, (bb : Int) + 256 * (B : Int), S⟩)) = ((g + 64 + kz : Nat) : Int) by
      show wU ((g : Int) + 64 + wU (wU (ka : Int) * (az : Int))) = _
      have e1 : wU (ka : Int) = ka := by unfold wU; rw [IntKind.wrap_u64]; omega
      have e2 : wU ((ka : Int) * (az : Int)) = kz := by
        have h : ((ka : Int) * (az : Int)) = ((ka * az : Nat) : Int) := by rw [Int.natCast_mul]
        rw [h, hkz]; unfold wU; rw [IntKind.wrap_u64]; omega
      rw [e1, e2]; unfold wU; rw [IntKind.wrap_u64]; omega] at hact
    rw [show wU (Ly.blocks ⟨0, g, (g : Int) + 64, az, bb, 256, (bb : Int) + 256 * (B : Int), S⟩ + wU (wU (kb : Int) * Ly.bsize ⟨0, g, (g : Int) + 64, az, bb, 256, (bb : Int) + 256 * (B : Int), S⟩)) = ((bb + 256 * kb : Nat) : Int) by
      show wU ((bb : Int) + wU (wU (kb : Int) * 256)) = _
      have e1 : wU (kb : Int) = kb := by unfold wU; rw [IntKind.wrap_u64]; omega
      rw [e1]; unfold wU; rw [IntKind.wrap_u64, IntKind.wrap_u64]; omega] at hblk
    obtain ⟨xa, hxa⟩ : ∃ n, g + 64 + kz = n := ⟨_, rfl⟩
    obtain ⟨ya, hya⟩ : ∃ n, bb + 256 * kb = n := ⟨_, rfl⟩
    rw [hxa] at hact
    rw [hya] at hblk
    change ∀ w, Calls Try.prog 11 #[.agg #[.int .u64 0, .int .u64 (g : Int), .int .u64 ((g : Int) + 64), .int .u64 (az : Int), .int .u64 (bb : Int), .int .u64 256, .int .u64 ((bb : Int) + 256 * (B : Int)), .int .i64 (S : Int)], .int .i64 (ka : Int)] w _ at hact
    change ∀ w, Calls Try.prog 12 #[.agg #[.int .u64 0, .int .u64 (g : Int), .int .u64 ((g : Int) + 64), .int .u64 (az : Int), .int .u64 (bb : Int), .int .u64 256, .int .u64 ((bb : Int) + 256 * (B : Int)), .int .i64 (S : Int)], .int .i64 (kb : Int)] w _ at hblk
    replace hact := Lib.hid hact
    replace hblk := Lib.hid hblk
    change ∀ w, Calls Try.prog 7 #[.agg #[.int .i64 x0, .int .i64 (A : Int), .int .i64 (B : Int), .int .i64 (W : Int), .int .i64 x4], .int .i64 (C : Int), .int .i64 (S : Int)] w fun e w' => e = .returned (.tuple #[.agg #[.int .u64 0, .int .u64 (g : Int), .int .u64 ((g : Int) + 64), .int .u64 (az : Int), .int .u64 (bb : Int), .int .u64 256, .int .u64 ((bb : Int) + 256 * (B : Int)), .int .i64 (S : Int)], .int .i64 0]) ∧ Nb w w' at hlay
    replace hlay := Lib.hid hlay
    show Calls Try.prog 5 #[.agg #[.int .i64 x0, .int .i64 (A : Int), .int .i64 (B : Int), .int .i64 (W : Int), .int .i64 x4], .int .i64 (C : Int), .int .i64 (S : Int), .int .i64 i, .int .i64 k] w _
    go_enter Try.func5, Try.ntmps5
    go_upto_region 1 with (fail)
    obtain ⟨W1, hW1⟩ : ∃ W1, w.alloc (.cells #[.int .i64 x0, .int .i64 (A : Int), .int .i64 (B : Int), .int .i64 (W : Int), .int .i64 x4] 23) = W1 := ⟨_, rfl⟩
    have n1 : Nb w W1 := by rw [← hW1]; exact alloc_nb _ _
    have b1 : W1.heap[w.heap.size]? = some (.cells #[.int .i64 x0, .int .i64 (A : Int), .int .i64 (B : Int), .int .i64 (W : Int), .int .i64 x4] 23 (0, 0)) := by rw [← hW1]; exact new_blk _ _ rfl
    rw [hW1]
    clear hW1
    obtain ⟨H, hH⟩ : ∃ H, w.heap.size = H := ⟨_, rfl⟩
    rw [hH] at b1 ⊢
    have c0 := cell_of_row _ _ 0 _ _ _ b1
    have c1 := cell_of_row _ _ 1 _ _ _ b1
    have c2 := cell_of_row _ _ 2 _ _ _ b1
    have c3 := cell_of_row _ _ 3 _ _ _ b1
    have c4 := cell_of_row _ _ 4 _ _ _ b1
    go_upto_region 2 with (go_at_call 7; refine (hlay.out _).mono ?_; rintro r w1 ⟨rfl, g1⟩)
    obtain ⟨W2, hW2⟩ : ∃ W2, w1.alloc (.cells #[.int .u64 0, .int .u64 (g : Int), .int .u64 ((g : Int) + 64), .int .u64 (az : Int), .int .u64 (bb : Int), .int .u64 256, .int .u64 ((bb : Int) + 256 * (B : Int)), .int .i64 (S : Int)] 26) = W2 := ⟨_, rfl⟩
    have n2 : Nb W1 W2 := by rw [← hW2]; exact g1.trans (alloc_nb _ _)
    have b2 : W2.heap[w1.heap.size]? = some (.cells #[.int .u64 0, .int .u64 (g : Int), .int .u64 ((g : Int) + 64), .int .u64 (az : Int), .int .u64 (bb : Int), .int .u64 256, .int .u64 ((bb : Int) + 256 * (B : Int)), .int .i64 (S : Int)] 26 (0, 0)) := by rw [← hW2]; exact new_blk _ _ rfl
    rw [hW2]
    clear hW2
    obtain ⟨H1, hH1⟩ : ∃ H, w1.heap.size = H := ⟨_, rfl⟩
    rw [hH1] at b2 ⊢
    clear hH1 c0 c1 c2 c3 c4
    replace b1 := n2.block b1
    replace n1 := n1.trans n2
    clear n2 g1
    have c1 := cell_of_row _ _ 1 _ _ _ b1
    have c2 := cell_of_row _ _ 2 _ _ _ b1
    go_upto_region 4 with (fail)
    have m1 : (if (1 : Int) < (A : Int) then (A : Int) else 1) = (A : Int) := by split <;> omega
    have m2 : (if (1 : Int) < (B : Int) then (B : Int) else 1) = (B : Int) := by split <;> omega
    replace m1 := Lib.hid m1
    replace m2 := Lib.hid m2
    replace hka := Lib.hid hka
    replace hkb := Lib.hid hkb
    go_quiet (fail)
    rw [m1.out, m2.out, hka.out, hkb.out]
    obtain ⟨W3, hW3⟩ : ∃ W3, W2.drewN nq = W3 := ⟨_, rfl⟩
    have n3 : Nb W2 W3 := by rw [← hW3]; exact (Nb.refl _).drewN _
    rw [hW3]
    clear hW3 c1 c2
    replace b2 := n3.block b2
    replace n1 := n1.trans n3
    clear n3 b1
    have z0 := cell_of_row _ _ 0 _ _ _ b2
    have d0 := cell_regrown z0
    have z1 := cell_of_row _ _ 1 _ _ _ b2
    have d1 := cell_regrown z1
    have z2 := cell_of_row _ _ 2 _ _ _ b2
    have d2 := cell_regrown z2
    have z3 := cell_of_row _ _ 3 _ _ _ b2
    have d3 := cell_regrown z3
    have z4 := cell_of_row _ _ 4 _ _ _ b2
    have d4 := cell_regrown z4
    have z5 := cell_of_row _ _ 5 _ _ _ b2
    have d5 := cell_regrown z5
    have z6 := cell_of_row _ _ 6 _ _ _ b2
    have d6 := cell_regrown z6
    have z7 := cell_of_row _ _ 7 _ _ _ b2
    have d7 := cell_regrown z7
    go_upto_region 5 with (fail)
    clear z0 z1 z2 z3 z4 z5 z6 z7
    have hactR := Lib.hid (fun (d : Nat) (os : Array Obj) => hact.out (grow (redrawn W3 d) os))
    have hblkR := Lib.hid (fun (d : Nat) (os : Array Obj) => hblk.out (grow (redrawn W3 d) os))
    refine wp_region_quiet_below (by kernel_rfl) (by kernel_rfl) ?_
    repeat (quiet_step ((first | (go_at_call 11; with_reducible exact regrown_nbS (hactR.out _ _)) | (go_at_call 12; with_reducible exact regrown_nbS (hblkR.out _ _)))))
    refine wpQuiet_nil ?_
    intro w4 hw'
    obtain ⟨⟨dq, osq⟩, hw''⟩ := hw'
    have n4 : Nb W3 w4 := by rw [hw'']; exact below_regrown W3 dq osq
    clear hw'' d0 d1 d2 d3 d4 d5 d6 d7
    replace b2 := n4.block b2
    have n5 := n1.trans n4
    have z0 := cell_of_row _ _ 0 _ _ _ b2
    have z1 := cell_of_row _ _ 1 _ _ _ b2
    have z2 := cell_of_row _ _ 2 _ _ _ b2
    have z3 := cell_of_row _ _ 3 _ _ _ b2
    have z4 := cell_of_row _ _ 4 _ _ _ b2
    have z5 := cell_of_row _ _ 5 _ _ _ b2
    have z6 := cell_of_row _ _ 6 _ _ _ b2
    have z7 := cell_of_row _ _ 7 _ _ _ b2
    go_upto_region 6 with (fail)
    have t1 : decide (4 * (C : Int) ≤ (g : Int)) = true := decide_eq_true (by omega)
    have t2 : ((g : Int).tmod 64 == 0) = true := by rw [Int.tmod_eq_emod_of_nonneg (by omega)]; exact beq_iff_eq.2 (by omega)
    have t3 : decide ((g : Int) + 64 ≤ (xa : Int)) = true := decide_eq_true (by omega)
    have t4 : decide ((xa : Int) + (az : Int) ≤ (bb : Int)) = true := decide_eq_true (by omega)
    have t5 : decide ((bb : Int) ≤ (ya : Int)) = true := decide_eq_true (by omega)
    have t6 : decide ((ya : Int) + 256 ≤ (bb : Int) + 256 * (B : Int)) = true := decide_eq_true (by omega)
    have t7 : decide ((bb : Int) + 256 * (B : Int) ≤ 16777216) = true := decide_eq_true (by omega)
    have t8 : ((xa : Int).tmod 8 == 0) = true := by rw [Int.tmod_eq_emod_of_nonneg (by omega)]; exact beq_iff_eq.2 (by omega)
    have t9 : ((ya : Int).tmod 8 == 0) = true := by rw [Int.tmod_eq_emod_of_nonneg (by omega)]; exact beq_iff_eq.2 (by omega)
    go_wp2_with (go_at_call 13; refine (hlives.out _).mono ?_; rintro r w7 ⟨rfl, g7⟩)
    go_ret
    exact ⟨rfl, n5.trans g7⟩
/-! The row's step. -/
set_option maxRecDepth 100000 in
set_option maxHeartbeats 1000000 in
theorem lifted (os : Os) (started : os.Started) (H : Type) (enc : TypeId × Value → H) :
    ReturnsInHanded {} Try.checked os 5 .any (Rows.imageApartSpec.pre6 enc Try.prog Try.f5 Rows.imageApartRow.domain false)
      (Rows.imageApartSpec.post enc Try.prog Try.f5 false true false false) := by
  refine returnsInHanded_of_change (C := Try.checked) own started (by kernel_rfl) Try.func5
    (ChangeSpec.witness6 (enc := enc) (C := Try.checked) false ⟨#[], #[.agg #[.int .i64 0, .int .i64 0, .int .i64 0, .int .i64 0, .int .i64 0], .int .i64 0, .int .i64 0, .int .i64 0, .int .i64 0], []⟩ 8 (by kernel_rfl) (by kernel_rfl) (by kernel_rfl) (by kernel_rfl)) ?_
  intro W base args ds gs before hval0 hW _ _
  have hval : ∀ (j : Nat) t v, Try.f5.params[j]? = some t → args[j]? = some v → Value.okWide Try.prog W .any base t v := hval0
  have hW' := hW
  obtain ⟨p, q, hA0, hV, rfl, hfz, hnd⟩ := hW
  have hA1 : DataW.TrodAll enc Try.prog W 0 (fun _ => true) true Try.f5.params.toList args.toList ds p := hA0
  have hA := hA1
  rw [Try.params5] at hA hval
  obtain ⟨v0, vs0, d0, ds0, p0, q0, hargs0, rfl, -, h0, r0⟩ := trodAll_cons hA
  obtain ⟨v1, vs1, d1, ds1, p1, q1, hargs1, rfl, -, h1, r1⟩ := trodAll_cons r0
  obtain ⟨v2, vs2, d2, ds2, p2, q2, hargs2, rfl, -, h2, r2⟩ := trodAll_cons r1
  obtain ⟨v3, vs3, d3, ds3, p3, q3, hargs3, rfl, -, h3, r3⟩ := trodAll_cons r2
  obtain ⟨v4, vs4, d4, ds4, p4, q4, hargs4, rfl, -, h4, r4⟩ := trodAll_cons r3
  obtain ⟨rfl, rfl, -⟩ := trodAll_nil r4
  obtain rfl : args = #[v0, v1, v2, v3, v4] := by cases args; simp_all
  obtain ⟨rfl, rfl⟩ := trodVars_none hV
  obtain ⟨q0, rfl, w0⟩ := open_conf (hval 0 23 v0 rfl rfl) h0
  obtain ⟨n1, rfl, -, -, w1⟩ := open_int Try.underlying3 (hval 1 3 v1 rfl rfl) h1
  obtain ⟨n2, rfl, -, -, w2⟩ := open_int Try.underlying3 (hval 2 3 v2 rfl rfl) h2
  obtain ⟨n3, rfl, -, -, w3⟩ := open_int Try.underlying3 (hval 3 3 v3 rfl rfl) h3
  obtain ⟨n4, rfl, -, -, w4⟩ := open_int Try.underlying3 (hval 4 3 v4 rfl rfl) h4
  clear hval0
  simp only [List.append_nil] at hW'
  refine (walk q0 n1 n2 n3 n4 w0 (i64_of w1) (i64_of w2) (i64_of w3) (i64_of w4) W ).mono fun e W' ⟨he, hg⟩ => ?_
  subst he
  exact ⟨_, rfl, post_of_nb (pa := p) (pv := []) hW' (fun _ _ _ => (trodAll_cons_mk (shut_bool Try.underlying4 _) trodAll_mk0))
    (fun sp hsp => args_stay (by kernel_rfl) hg hA1 (fun t ht => by
      have h0 : (Try.f5.params.toList.all fun t => Try.prog.readableRec t && decide (t < Try.prog.types.size)) = true := by kernel_rfl
      have h1 := List.all_eq_true.1 h0 t ht
      rw [Bool.and_eq_true, decide_eq_true_eq] at h1
      exact h1) (fun x hx => hW'.lt x hx) hsp)
    (fun _ _ => rfl) (by simp) hg (ok_one (by kernel_rfl) rfl (okWide_bool_mk Try.underlying4 _))⟩
theorem over : Rows.imageApartRow.holds Try.pinned (OpenSpec.ofChange Rows.imageApartSpec) :=
  OpenClaim.holds_of_wide 5 Try.f5 rfl rfl rfl rfl rfl rfl rfl ⟨rfl, rfl, rfl, rfl, rfl⟩ rfl rfl rfl rfl rfl (by kernel_rfl) Try.func5 (by kernel_rfl)
    (of_decide_eq_true (by kernel_rfl)) (by unfold Func.isWrapper; first | (rw [if_pos (by decide +kernel)]; kernel_rfl) | (rw [if_neg (by decide +kernel)]; exact ⟨rfl, rfl⟩))
    (fun os started H enc _ => lifted os started H enc)
/-- The statement. -/
theorem proved : Rows.ImageApartSaid := over
#print axioms proved
end Go.Proofs.Ytojogolmcclpoaa.imageApart
