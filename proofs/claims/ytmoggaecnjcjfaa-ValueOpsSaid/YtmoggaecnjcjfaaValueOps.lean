/-
  Proved here: the statement ValueOps: what any sign makes of any two values, and whether one holds, is as the document says. Conditions: none.
-/
import Derived.Test.YtmoggaecnjcjfaaVl
import Derived.Test.YtmoggaecnjcjfaaVn
import Derived.Test.YtmoggaecnjcjfaaVo
import Derived.Test.YtmoggaecnjcjfaaVq
import Derived.Lib.QuietBelow
namespace Go.Proofs.Ytmoggaecnjcjfaa.valueOps
open Go.Sort Go.RowKit Go.ChangeMaps Go.ChangeShapes Go.WideShapes Go.ChangeAt Go.Joins
set_option linter.unusedVariables false
set_option linter.unusedSimpArgs false
set_option maxRecDepth 100000
set_option maxHeartbeats 4000000
theorem regrown_nb {P : Program} {f : FuncId} {args : Array Value} {w : World} {d : Nat} {os : Array Obj} {v : Value}
    (h : Calls P f args (grow (redrawn w d) os) fun e w' => e = .returned v ∧ Nb (grow (redrawn w d) os) w') : Calls P f args (grow (redrawn w d) os) fun e w'' => e = .returned v ∧ ∃ p : Regrown, w'' = grow (redrawn w p.d) p.os :=
  Calls.regrown_of h
theorem walk (s : ByteArray) (a b : Vl) (w : World) (ha : a.Has w) (hb : b.Has w) :
    Calls Try.prog 3 #[.string s, .agg a.cells.toArray, .agg b.cells.toArray] w fun r w' => r = .returned (.bool true) ∧ Nb w w' := by
  obtain ⟨A, c, hav, -, -, -⟩ := ha.vls.head
  obtain ⟨A2, c2, hbv, -, -, -⟩ := hb.vls.head
  have hca : a.cells.toArray = #[.int .i64 a.kind, .int .i64 a.n, .slice A a.args.length c] := by rw [← hav]; rfl
  have hcb : b.cells.toArray = #[.int .i64 b.kind, .int .i64 b.n, .slice A2 b.args.length c2] := by rw [← hbv]; rfl
  rw [hca, hcb]
  clear hca hcb
  obtain ⟨L, hL⟩ : ∃ L, a.args.length = L := ⟨_, rfl⟩
  obtain ⟨L2, hL2⟩ : ∃ L, b.args.length = L := ⟨_, rfl⟩
  rw [hL] at hav ⊢
  rw [hL2] at hbv ⊢
  clear hL hL2
  obtain ⟨ka, hka⟩ : ∃ k, a.kind = k := ⟨_, rfl⟩
  obtain ⟨na, hna⟩ : ∃ k, a.n = k := ⟨_, rfl⟩
  obtain ⟨kb, hkb⟩ : ∃ k, b.kind = k := ⟨_, rfl⟩
  obtain ⟨nb, hnb⟩ : ∃ k, b.n = k := ⟨_, rfl⟩
  rw [hka, hna, hkb, hnb]
  have hav := Lib.hid hav
  have hbv := Lib.hid hbv
  replace hka := Lib.hid hka
  replace hna := Lib.hid hna
  replace hkb := Lib.hid hkb
  replace hnb := Lib.hid hnb
  obtain ⟨q, hq⟩ : ∃ q, opS s ka na kb nb = q := ⟨_, rfl⟩
  have o1 : Hid (∀ W, Calls Try.prog 11 #[.string s, .agg #[.int .i64 ka, .int .i64 na, .slice A L c], .agg #[.int .i64 kb, .int .i64 nb, .slice A2 L2 c2]] W fun r w' => r = .returned (.agg #[.int .i64 1, .int .i64 q, .slice none 0 0]) ∧ Nb W w') := Lib.hid (fun W => by rw [← hq]; exact op_any s ka na kb nb A A2 L c L2 c2 W)
  have o2 : Hid (∀ W, Calls Try.prog 12 #[.string s, .agg #[.int .i64 ka, .int .i64 na, .slice A L c], .agg #[.int .i64 kb, .int .i64 nb, .slice A2 L2 c2]] W fun r w' => r = .returned (.agg #[.int .i64 1, .int .i64 q, .slice none 0 0]) ∧ Nb W w') := Lib.hid (fun W => by rw [← hq]; exact rop_any s ka na kb nb A A2 L c L2 c2 W)
  have hs : Hid (∀ W, Calls Try.prog 10 #[.agg #[.int .i64 1, .int .i64 q, .slice none 0 0], .agg #[.int .i64 1, .int .i64 q, .slice none 0 0]] W fun r w' => r = .returned (.bool true) ∧ Nb W w') := Lib.hid (fun W => by simpa using rsame_int 1 q 1 q W)
  obtain ⟨hb1, hhb⟩ : ∃ t, (cnt ka na != 0) = t := ⟨_, rfl⟩
  have hh1 : Hid (∀ W, Calls Try.prog 13 #[.agg #[.int .i64 ka, .int .i64 na, .slice A L c]] W fun r w' => r = .returned (.bool hb1) ∧ Nb W w') := Lib.hid (fun W => by rw [← hhb]; exact holds_any ka na A L c W)
  have hh2 : Hid (∀ W, Calls Try.prog 14 #[.agg #[.int .i64 ka, .int .i64 na, .slice A L c]] W fun r w' => r = .returned (.bool hb1) ∧ Nb W w') := Lib.hid (fun W => by rw [← hhb]; exact rholds_any ka na A L c W)
  clear hq hhb
  go_enter Try.func3, Try.ntmps3
  go_upto_region 1 with (fail)
  obtain ⟨W1, hW⟩ : ∃ W1, (w.alloc (Obj.cells #[.int .i64 ka, .int .i64 na, .slice A L c] 24)).alloc (Obj.cells #[.int .i64 kb, .int .i64 nb, .slice A2 L2 c2] 24) = W1 := ⟨_, rfl⟩
  have n1 : Nb w W1 := by rw [← hW]; exact ((Nb.refl w).alloc _).alloc _
  have bA : W1.heap[w.heap.size]? = some (.cells #[.int .i64 ka, .int .i64 na, .slice A L c] 24 (0, 0)) := by rw [← hW]; exact old_blk (new_blk _ _ rfl) _
  have bB : W1.heap[w.heap.size + 1]? = some (.cells #[.int .i64 kb, .int .i64 nb, .slice A2 L2 c2] 24 (0, 0)) := by rw [← hW]; exact new_blk _ _ (by simp)
  rw [hW]
  clear hW
  obtain ⟨C, hC⟩ : ∃ D, w.heap.size + 1 = D := ⟨_, rfl⟩
  obtain ⟨B, hB⟩ : ∃ B, w.heap.size = B := ⟨_, rfl⟩
  rw [hC] at bB ⊢
  rw [hB] at bA ⊢
  clear hB hC
  have a0 := cell_of_row _ _ 0 _ _ _ bA
  have a1 := cell_of_row _ _ 1 _ _ _ bA
  have a2 := cell_of_row _ _ 2 _ _ _ bA
  have b0 := cell_of_row _ _ 0 _ _ _ bB
  have b1 := cell_of_row _ _ 1 _ _ _ bB
  have b2 := cell_of_row _ _ 2 _ _ _ bB
  have hlg : Hid (Calls Try.prog 8 #[.slice (some ⟨W1.heap.size, 0, none⟩) 2 2] (W1.alloc (Obj.cells #[.int .i64 ka, .int .i64 na, .slice A L c, .int .i64 kb, .int .i64 nb, .slice A2 L2 c2] 24)) (fun r w' => r = .returned (.bool (a.light && b.light)) ∧ Nb W1 w')) := Lib.hid (by
    have hx : (W1.alloc (Obj.cells #[.int .i64 ka, .int .i64 na, .slice A L c, .int .i64 kb, .int .i64 nb, .slice A2 L2 c2] 24)).heap[W1.heap.size]? = some (.cells #[.int .i64 a.kind, .int .i64 a.n, a.av, .int .i64 b.kind, .int .i64 b.n, b.av] 24 (0, 0)) := by
      rw [hka.out, hna.out, hkb.out, hnb.out, hav.out, hbv.out]
      exact new_blk _ _ rfl
    refine (light_any _ _ [a, b] (two_has hx (ha.nb (n1.trans (alloc_nb' _ _))) (hb.nb (n1.trans (alloc_nb' _ _)))) _ (Nb.refl _)).mono ?_
    rintro r w' ⟨rfl, n2⟩
    exact ⟨by simp, (alloc_nb' _ _).trans n2⟩)
  obtain ⟨lt, hlt⟩ : ∃ t, (a.light && b.light) = t := ⟨_, rfl⟩
  rw [hlt] at hlg
  clear hlt
  cases lt with
  | false =>
    go_wp2_with (first
      | (go_at_call 8; refine (hlg.out).mono ?_; rintro r w2 ⟨rfl, n2⟩)
      | (go_at_call 9; refine (lives_any _).mono ?_; rintro r w3 ⟨rfl, n3⟩))
    go_ret
    exact ⟨rfl, n1.trans (n2.trans n3)⟩
  | true =>
    go_upto_region 3 with (go_at_call 8; refine (hlg.out).mono ?_; rintro r w2 ⟨rfl, n2⟩)
    have nn := n1.trans n2
    have d0 := cell_regrown (n2.cell a0)
    have d1 := cell_regrown (n2.cell a1)
    have d2 := cell_regrown (n2.cell a2)
    have d3 := cell_regrown (n2.cell b0)
    have d4 := cell_regrown (n2.cell b1)
    have d5 := cell_regrown (n2.cell b2)
    clear a0 a1 a2 b0 b1 b2 n1 n2
    refine wp_region_quiet_below (by kernel_rfl) (by kernel_rfl) ?_
    repeat (quiet_step ((first | (go_at_call 11; with_reducible exact regrown_nb (o1.out _)) | (go_at_call 12; with_reducible exact regrown_nb (o2.out _)) | (go_at_call 10; with_reducible exact regrown_nb (hs.out _)) | (go_at_call 13; with_reducible exact regrown_nb (hh1.out _)) | (go_at_call 14; with_reducible exact regrown_nb (hh2.out _)) | (go_at_call 9; with_reducible exact regrown_nb (lives_any _)))))
    refine wpQuiet_nil ?_
    intro w4 hw'
    obtain ⟨⟨dq, osq⟩, hw''⟩ := hw'
    have n4 : Nb w2 w4 := by rw [hw'']; exact below_regrown w2 dq osq
    clear hw'' d0 d1 d2 d3 d4 d5
    go_wp2_with fail
    go_ret
    exact ⟨rfl, nn.trans n4⟩
/-! The row's step. -/
set_option maxRecDepth 100000 in
set_option maxHeartbeats 1000000 in
theorem lifted (os : Os) (started : os.Started) (H : Type) (enc : TypeId × Value → H) :
    ReturnsInHanded {} Try.checked os 3 .any (Rows.valueOpsSpec.pre6 enc Try.prog Try.f3 Rows.valueOpsRow.domain false)
      (Rows.valueOpsSpec.post enc Try.prog Try.f3 false true false false) := by
  refine returnsInHanded_of_change (C := Try.checked) own started (by kernel_rfl) Try.func3
    (ChangeSpec.witness6 (enc := enc) (C := Try.checked) false ⟨#[], #[.string ⟨#[]⟩, .agg #[.int .i64 0, .int .i64 0, .slice none 0 0], .agg #[.int .i64 0, .int .i64 0, .slice none 0 0]], []⟩ 8 (by kernel_rfl) (by kernel_rfl) (by kernel_rfl) (by kernel_rfl)) ?_
  intro W base args ds gs before hval0 hW _ _
  have hval : ∀ (j : Nat) t v, Try.f3.params[j]? = some t → args[j]? = some v → Value.okWide Try.prog W .any base t v := hval0
  have hW' := hW
  obtain ⟨p, q, hA0, hV, rfl, hfz, hnd⟩ := hW
  have hA1 : DataW.TrodAll enc Try.prog W 0 (fun _ => true) true Try.f3.params.toList args.toList ds p := hA0
  have hA := hA1
  rw [Try.params3] at hA hval
  obtain ⟨v0, vs0, d0, ds0, p0, q0, hargs0, rfl, -, h0, r0⟩ := trodAll_cons hA
  obtain ⟨v1, vs1, d1, ds1, p1, q1, hargs1, rfl, -, h1, r1⟩ := trodAll_cons r0
  obtain ⟨v2, vs2, d2, ds2, p2, q2, hargs2, rfl, -, h2, r2⟩ := trodAll_cons r1
  obtain ⟨rfl, rfl, -⟩ := trodAll_nil r2
  obtain rfl : args = #[v0, v1, v2] := by cases args; simp_all
  obtain ⟨rfl, rfl⟩ := trodVars_none hV
  obtain ⟨n0, rfl, -, -, w0⟩ := open_string Try.underlying9 (hval 0 9 v0 rfl rfl) h0
  obtain ⟨q1, rfl, hq1⟩ := open_value (hval 1 24 v1 rfl rfl) h1
  obtain ⟨q2, rfl, hq2⟩ := open_value (hval 2 24 v2 rfl rfl) h2
  clear hval0
  simp only [List.append_nil] at hW'
  refine (walk n0 q1 q2  W hq1 hq2).mono fun e W' ⟨he, hg⟩ => ?_
  subst he
  exact ⟨_, rfl, post_of_nb (pa := p) (pv := []) hW' (fun _ _ _ => (trodAll_cons_mk (shut_bool Try.underlying4 _) trodAll_mk0))
    (fun sp hsp => args_stay (by kernel_rfl) hg hA1 (fun t ht => by
      have h0 : (Try.f3.params.toList.all fun t => Try.prog.readableRec t && decide (t < Try.prog.types.size)) = true := by kernel_rfl
      have h1 := List.all_eq_true.1 h0 t ht
      rw [Bool.and_eq_true, decide_eq_true_eq] at h1
      exact h1) (fun x hx => hW'.lt x hx) hsp)
    (fun _ _ => rfl) (by simp) hg (ok_one (by kernel_rfl) rfl (okWide_bool_mk Try.underlying4 _))⟩
theorem over : Rows.valueOpsRow.holds Try.pinned (OpenSpec.ofChange Rows.valueOpsSpec) :=
  OpenClaim.holds_of_wide 3 Try.f3 rfl rfl rfl rfl rfl rfl rfl ⟨rfl, rfl, rfl, rfl, rfl⟩ rfl rfl rfl rfl rfl (by kernel_rfl) Try.func3 (by kernel_rfl)
    (of_decide_eq_true (by kernel_rfl)) (by unfold Func.isWrapper; first | (rw [if_pos (by decide +kernel)]; kernel_rfl) | (rw [if_neg (by decide +kernel)]; exact ⟨rfl, rfl⟩))
    (fun os started H enc _ => lifted os started H enc)
/-- The statement. -/
theorem proved : Rows.ValueOpsSaid := over
#print axioms proved
end Go.Proofs.Ytmoggaecnjcjfaa.valueOps
