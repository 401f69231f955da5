/-
  Proved here: the statement ValueRing: sums and products are alike, however they are put together, and taken back. Conditions: none.
-/
import Derived.Test.YtmoggaecnjcjfaaVl
import Derived.Test.YtmoggaecnjcjfaaVm
import Derived.Test.YtmoggaecnjcjfaaVo
import Derived.Lib.QuietBelow
namespace Go.Proofs.Ytmoggaecnjcjfaa.valueRing
open Go.Sort Go.RowKit Go.ChangeMaps Go.ChangeShapes Go.WideShapes Go.ChangeAt Go.Joins
set_option linter.unusedVariables false
set_option linter.unusedSimpArgs false
set_option maxRecDepth 100000
set_option maxHeartbeats 4000000
abbrev iV (n : Int) : Value := .agg #[.int .i64 1, .int .i64 n, .slice none 0 0]
def OpIs (s : ByteArray) (x y p : Int) : Prop := ∀ W, Calls Try.prog 11 #[.string s, .agg #[.int .i64 1, .int .i64 x, .slice none 0 0], .agg #[.int .i64 1, .int .i64 y, .slice none 0 0]] W fun r w' => r = .returned (.agg #[.int .i64 1, .int .i64 p, .slice none 0 0]) ∧ Nb W w'
theorem opIs (s : ByteArray) (x y p : Int) (h : opS s 1 x 1 y = p) : OpIs s x y p := fun W => by
  rw [← h]
  exact op_any s 1 x 1 y none none 0 0 0 0 W
theorem op_plus (x y : Int) : opS ⟨#[43]⟩ 1 x 1 y = Wr (x + y) := by
  have h : (⟨#[43]⟩ : ByteArray).toList = [43] := by rw [ByteArray.toList_eq]
  unfold opS
  rw [if_pos h, wr_wrap]
  rfl
theorem op_minus (x y : Int) : opS ⟨#[45]⟩ 1 x 1 y = Wr (x - y) := by
  have h : (⟨#[45]⟩ : ByteArray).toList = [45] := by rw [ByteArray.toList_eq]
  unfold opS
  rw [h, if_neg (by decide), if_pos rfl, wr_wrap]
  rfl
theorem op_times (x y : Int) : opS ⟨#[42]⟩ 1 x 1 y = Wr (x * y) := by
  have h : (⟨#[42]⟩ : ByteArray).toList = [42] := by rw [ByteArray.toList_eq]
  unfold opS
  rw [h, if_neg (by decide), if_neg (by decide), if_pos rfl, wr_wrap]
  rfl
theorem op_less (x y : Int) : opS ⟨#[60]⟩ 1 x 1 y = if x < y then 1 else 0 := by
  have h : (⟨#[60]⟩ : ByteArray).toList = [60] := by rw [ByteArray.toList_eq]
  unfold opS
  rw [h, if_neg (by decide), if_neg (by decide), if_neg (by decide), if_pos rfl]
  rfl
theorem op_eq (x y : Int) : opS ⟨#[61, 61]⟩ 1 x 1 y = if x = y then 1 else 0 := by
  have h : (⟨#[61, 61]⟩ : ByteArray).toList = [61, 61] := by rw [ByteArray.toList_eq]
  unfold opS
  rw [h, if_neg (by decide), if_neg (by decide), if_neg (by decide), if_neg (by decide), if_pos rfl]
  simp
theorem regrown_nb {P : Program} {f : FuncId} {args : Array Value} {w : World} {d : Nat} {os : Array Obj} {v : Value}
    (h : Calls P f args (grow (redrawn w d) os) fun e w' => e = .returned v ∧ Nb (grow (redrawn w d) os) w') : Calls P f args (grow (redrawn w d) os) fun e w'' => e = .returned v ∧ ∃ p : Regrown, w'' = grow (redrawn w p.d) p.os :=
  Calls.regrown_of h
theorem keep9 {W1 w' w'' : World} {B C D : Nat} {a0 a1 a2 b0 b1 b2 c0 c1 c2 : Value} (h : Nb W1 w' ∧ B < w'.heap.size ∧ C < w'.heap.size ∧ D < w'.heap.size ∧ w'.cell? ⟨B, 0, none⟩ = some a0 ∧ w'.cell? ⟨B, 1, none⟩ = some a1 ∧ w'.cell? ⟨B, 2, none⟩ = some a2 ∧ w'.cell? ⟨C, 0, none⟩ = some b0 ∧ w'.cell? ⟨C, 1, none⟩ = some b1 ∧ w'.cell? ⟨C, 2, none⟩ = some b2 ∧ w'.cell? ⟨D, 0, none⟩ = some c0 ∧ w'.cell? ⟨D, 1, none⟩ = some c1 ∧ w'.cell? ⟨D, 2, none⟩ = some c2) (k : Nb w' w'') :
    Nb W1 w'' ∧ B < w''.heap.size ∧ C < w''.heap.size ∧ D < w''.heap.size ∧ w''.cell? ⟨B, 0, none⟩ = some a0 ∧ w''.cell? ⟨B, 1, none⟩ = some a1 ∧ w''.cell? ⟨B, 2, none⟩ = some a2 ∧ w''.cell? ⟨C, 0, none⟩ = some b0 ∧ w''.cell? ⟨C, 1, none⟩ = some b1 ∧ w''.cell? ⟨C, 2, none⟩ = some b2 ∧ w''.cell? ⟨D, 0, none⟩ = some c0 ∧ w''.cell? ⟨D, 1, none⟩ = some c1 ∧ w''.cell? ⟨D, 2, none⟩ = some c2 := by
  obtain ⟨h1, h2, h3, h4, h5, h6, h7, h8, h9, h10, h11, h12, h13⟩ := h
  exact ⟨h1.trans k, Nat.lt_of_lt_of_le h2 k.size, Nat.lt_of_lt_of_le h3 k.size, Nat.lt_of_lt_of_le h4 k.size, k.cell h5, k.cell h6, k.cell h7, k.cell h8, k.cell h9, k.cell h10, k.cell h11, k.cell h12, k.cell h13⟩
theorem walk (a b c : Int) (ha : -9223372036854775808 ≤ a ∧ a < 9223372036854775808) (hb : -9223372036854775808 ≤ b ∧ b < 9223372036854775808) (hc : -9223372036854775808 ≤ c ∧ c < 9223372036854775808) (w : World) :
    Calls Try.prog 7 #[.int .i64 a, .int .i64 b, .int .i64 c] w fun r w' => r = .returned (.bool true) ∧ Nb w w' := by
  obtain ⟨x, hx⟩ : ∃ x, Wr a = x := ⟨_, rfl⟩
  obtain ⟨y, hy⟩ : ∃ y, Wr b = y := ⟨_, rfl⟩
  obtain ⟨z, hz⟩ : ∃ z, Wr c = z := ⟨_, rfl⟩
  have hw1 := fun W => wrap_any a W
  have hw2 := fun W => wrap_any b W
  have hw3 := fun W => wrap_any c W
  have rx := wr_room a
  rw [hx] at hw1 rx
  rw [hy] at hw2
  rw [hz] at hw3
  replace hw1 := Lib.hid hw1
  replace hw2 := Lib.hid hw2
  replace hw3 := Lib.hid hw3
  clear hx hy hz ha hb hc
  go_enter Try.func7, Try.ntmps7
  go_upto_region 3 with (first
    | (go_at_call 23; refine (hw1.out _).mono ?_; rintro r w2 ⟨rfl, rfl⟩)
    | (go_at_call 23; refine (hw2.out _).mono ?_; rintro r w2 ⟨rfl, rfl⟩)
    | (go_at_call 23; refine (hw3.out _).mono ?_; rintro r w2 ⟨rfl, rfl⟩))
  obtain ⟨W1, hW⟩ : ∃ W1, ((w.alloc (Obj.cells #[.int .i64 1, .int .i64 x, .slice none 0 0] 24)).alloc (Obj.cells #[.int .i64 1, .int .i64 y, .slice none 0 0] 24)).alloc (Obj.cells #[.int .i64 1, .int .i64 z, .slice none 0 0] 24) = W1 := ⟨_, rfl⟩
  have n1 : Nb w W1 := by rw [← hW]; exact (((Nb.refl w).alloc _).alloc _).alloc _
  have bA : W1.heap[w.heap.size]? = some (.cells #[.int .i64 1, .int .i64 x, .slice none 0 0] 24 (0, 0)) := by rw [← hW]; exact old_blk (old_blk (new_blk _ _ rfl) _) _
  have bB : W1.heap[w.heap.size + 1]? = some (.cells #[.int .i64 1, .int .i64 y, .slice none 0 0] 24 (0, 0)) := by rw [← hW]; exact old_blk (new_blk _ _ (by simp)) _
  have bC : W1.heap[w.heap.size + 1 + 1]? = some (.cells #[.int .i64 1, .int .i64 z, .slice none 0 0] 24 (0, 0)) := by rw [← hW]; exact new_blk _ _ (by simp)
  rw [hW]
  clear hW
  obtain ⟨D, hD⟩ : ∃ R, w.heap.size + 1 + 1 = R := ⟨_, rfl⟩
  obtain ⟨C, hC⟩ : ∃ D, w.heap.size + 1 = D := ⟨_, rfl⟩
  obtain ⟨B, hB⟩ : ∃ B, w.heap.size = B := ⟨_, rfl⟩
  rw [hD] at bC ⊢
  rw [hC] at bB ⊢
  rw [hB] at bA ⊢
  clear hB hC hD
  obtain ⟨p1, e1⟩ : ∃ p, Wr (x + y) = p := ⟨_, rfl⟩
  obtain ⟨p2, e2⟩ : ∃ p, Wr (p1 + z) = p := ⟨_, rfl⟩
  obtain ⟨p3, e3⟩ : ∃ p, Wr (y + z) = p := ⟨_, rfl⟩
  obtain ⟨q1, e5⟩ : ∃ p, Wr (x * y) = p := ⟨_, rfl⟩
  obtain ⟨q2, e6⟩ : ∃ p, Wr (q1 * z) = p := ⟨_, rfl⟩
  obtain ⟨q3, e7⟩ : ∃ p, Wr (y * z) = p := ⟨_, rfl⟩
  obtain ⟨q4, e8⟩ : ∃ p, Wr (x * z) = p := ⟨_, rfl⟩
  obtain ⟨s1, e9⟩ : ∃ p, Wr (x * p3) = p := ⟨_, rfl⟩
  have o1 := Lib.hid (opIs ⟨#[43]⟩ x y p1 ((op_plus x y).trans e1))
  have o2 := Lib.hid (opIs ⟨#[43]⟩ p1 z p2 ((op_plus p1 z).trans e2))
  have o3 := Lib.hid (opIs ⟨#[43]⟩ y z p3 ((op_plus y z).trans e3))
  have o4 := Lib.hid (opIs ⟨#[43]⟩ x p3 p2 ((op_plus x p3).trans (by rw [← e2, ← e1, ← e3, ring_add])))
  have o5 := Lib.hid (opIs ⟨#[42]⟩ x y q1 ((op_times x y).trans e5))
  have o6 := Lib.hid (opIs ⟨#[42]⟩ q1 z q2 ((op_times q1 z).trans e6))
  have o7 := Lib.hid (opIs ⟨#[42]⟩ y z q3 ((op_times y z).trans e7))
  have o8 := Lib.hid (opIs ⟨#[42]⟩ x q3 q2 ((op_times x q3).trans (by rw [← e6, ← e5, ← e7, ring_mul])))
  have o9 := Lib.hid (opIs ⟨#[42]⟩ x z q4 ((op_times x z).trans e8))
  have o10 := Lib.hid (opIs ⟨#[42]⟩ x p3 s1 ((op_times x p3).trans e9))
  have o11 := Lib.hid (opIs ⟨#[43]⟩ q1 q4 s1 ((op_plus q1 q4).trans (by rw [← e9, ← e5, ← e8, ← e3, ring_both])))
  have o12 := Lib.hid (opIs ⟨#[45]⟩ p1 y x ((op_minus p1 y).trans (by rw [← e1]; exact ring_back x y rx)))
  obtain ⟨lt, hlt⟩ : ∃ k : Int, (if x < y then (1 : Int) else 0) = k := ⟨_, rfl⟩
  obtain ⟨eq, heq⟩ : ∃ k : Int, (if x = y then (1 : Int) else 0) = k := ⟨_, rfl⟩
  have o13 := Lib.hid (opIs ⟨#[60]⟩ x y lt ((op_less x y).trans hlt))
  have o14 := Lib.hid (opIs ⟨#[61, 61]⟩ x y eq ((op_eq x y).trans heq))
  have hh1 : Hid (∀ W, Calls Try.prog 13 #[.agg #[.int .i64 1, .int .i64 lt, .slice none 0 0]] W fun r w' => r = .returned (.bool (decide (x < y))) ∧ Nb W w') := Lib.hid (fun W => by
    have e : (cnt 1 lt != 0) = decide (x < y) := by rw [← hlt]; unfold cnt; by_cases h : x < y <;> simp [h]
    rw [← e]
    exact holds_any 1 lt none 0 0 W)
  have hh2 : Hid (∀ W, Calls Try.prog 13 #[.agg #[.int .i64 1, .int .i64 eq, .slice none 0 0]] W fun r w' => r = .returned (.bool (x == y)) ∧ Nb W w') := Lib.hid (fun W => by
    have e : (cnt 1 eq != 0) = (x == y) := by rw [← heq]; unfold cnt; by_cases h : x = y <;> simp [h]
    rw [← e]
    exact holds_any 1 eq none 0 0 W)
  clear hlt heq
  have hs : Hid (∀ u W, Calls Try.prog 10 #[.agg #[.int .i64 1, .int .i64 u, .slice none 0 0], .agg #[.int .i64 1, .int .i64 u, .slice none 0 0]] W fun r w' => r = .returned (.bool true) ∧ Nb W w') := Lib.hid (fun u W => by simpa using rsame_int 1 u 1 u W)
  unfold OpIs at o1 o2 o3 o4 o5 o6 o7 o8 o9 o10 o11 o12 o13 o14
  clear e1 e2 e3 e5 e6 e7 e8 e9 rx hw1 hw2 hw3
  have zB := lt_blk bA
  have zC := lt_blk bB
  have zD := lt_blk bC
  have a0 := cell_of_row _ _ 0 _ _ _ bA
  have a1 := cell_of_row _ _ 1 _ _ _ bA
  have a2 := cell_of_row _ _ 2 _ _ _ bA
  have b0 := cell_of_row _ _ 0 _ _ _ bB
  have b1 := cell_of_row _ _ 1 _ _ _ bB
  have b2 := cell_of_row _ _ 2 _ _ _ bB
  have c0 := cell_of_row _ _ 0 _ _ _ bC
  have c1 := cell_of_row _ _ 1 _ _ _ bC
  have c2 := cell_of_row _ _ 2 _ _ _ bC
  clear bA bB bC
  have d0 := cell_regrown a0
  have d1 := cell_regrown a1
  have d2 := cell_regrown a2
  have d3 := cell_regrown b0
  have d4 := cell_regrown b1
  have d5 := cell_regrown b2
  have d6 := cell_regrown c0
  have d7 := cell_regrown c1
  have d8 := cell_regrown c2
  refine wp_region_quiet_below (by kernel_rfl) (by kernel_rfl) ?_
  repeat (quiet_step ((first | (go_at_call 11; with_reducible exact regrown_nb (o1.out _)) | (go_at_call 11; with_reducible exact regrown_nb (o2.out _)) | (go_at_call 11; with_reducible exact regrown_nb (o3.out _)) | (go_at_call 11; with_reducible exact regrown_nb (o4.out _)) | (go_at_call 11; with_reducible exact regrown_nb (o5.out _)) | (go_at_call 11; with_reducible exact regrown_nb (o6.out _)) | (go_at_call 11; with_reducible exact regrown_nb (o7.out _)) | (go_at_call 11; with_reducible exact regrown_nb (o8.out _)) | (go_at_call 10; with_reducible exact regrown_nb (hs.out _ _)))))
  refine wpQuiet_nil ?_
  intro W2 hw'
  obtain ⟨⟨dq, osq⟩, hw''⟩ := hw'
  have nn : Nb W1 W2 := by rw [hw'']; exact below_regrown W1 dq osq
  clear hw''
  have n2 := n1.trans nn
  replace a0 := nn.cell a0
  replace a1 := nn.cell a1
  replace a2 := nn.cell a2
  replace b0 := nn.cell b0
  replace b1 := nn.cell b1
  replace b2 := nn.cell b2
  replace c0 := nn.cell c0
  replace c1 := nn.cell c1
  replace c2 := nn.cell c2
  clear nn n1 d0 d1 d2 d3 d4 d5 d6 d7 d8
  go_upto_region 5 with (fail)
  have d0 := cell_regrown a0
  have d1 := cell_regrown a1
  have d2 := cell_regrown a2
  have d3 := cell_regrown b0
  have d4 := cell_regrown b1
  have d5 := cell_regrown b2
  have d6 := cell_regrown c0
  have d7 := cell_regrown c1
  have d8 := cell_regrown c2
  refine wp_region_quiet_below (by kernel_rfl) (by kernel_rfl) ?_
  repeat (quiet_step ((first | (go_at_call 11; with_reducible exact regrown_nb (o3.out _)) | (go_at_call 11; with_reducible exact regrown_nb (o10.out _)) | (go_at_call 11; with_reducible exact regrown_nb (o5.out _)) | (go_at_call 11; with_reducible exact regrown_nb (o9.out _)) | (go_at_call 11; with_reducible exact regrown_nb (o11.out _)) | (go_at_call 11; with_reducible exact regrown_nb (o1.out _)) | (go_at_call 11; with_reducible exact regrown_nb (o12.out _)) | (go_at_call 10; with_reducible exact regrown_nb (hs.out _ _)))))
  refine wpQuiet_nil ?_
  intro W3 hw'
  obtain ⟨⟨dq, osq⟩, hw''⟩ := hw'
  have nn : Nb W2 W3 := by rw [hw'']; exact below_regrown W2 dq osq
  clear hw''
  have n3 := n2.trans nn
  replace a0 := nn.cell a0
  replace a1 := nn.cell a1
  replace a2 := nn.cell a2
  replace b0 := nn.cell b0
  replace b1 := nn.cell b1
  replace b2 := nn.cell b2
  replace c0 := nn.cell c0
  replace c1 := nn.cell c1
  replace c2 := nn.cell c2
  clear nn n2 d0 d1 d2 d3 d4 d5 d6 d7 d8
  go_upto_region 7 with (fail)
  have d0 := cell_regrown a0
  have d1 := cell_regrown a1
  have d2 := cell_regrown a2
  have d3 := cell_regrown b0
  have d4 := cell_regrown b1
  have d5 := cell_regrown b2
  have d6 := cell_regrown c0
  have d7 := cell_regrown c1
  have d8 := cell_regrown c2
  refine wp_region_quiet_below (by kernel_rfl) (by kernel_rfl) ?_
  repeat (quiet_step ((first | (go_at_call 11; with_reducible exact regrown_nb (o13.out _)) | (go_at_call 11; with_reducible exact regrown_nb (o14.out _)) | (go_at_call 13; with_reducible exact regrown_nb (hh1.out _)) | (go_at_call 13; with_reducible exact regrown_nb (hh2.out _)) | (go_at_call 9; with_reducible exact regrown_nb (lives_any _)))))
  refine wpQuiet_nil ?_
  intro W4 hw'
  obtain ⟨⟨dq, osq⟩, hw''⟩ := hw'
  have nn : Nb W3 W4 := by rw [hw'']; exact below_regrown W3 dq osq
  clear hw''
  have n4 := n3.trans nn
  replace a0 := nn.cell a0
  replace a1 := nn.cell a1
  replace a2 := nn.cell a2
  replace b0 := nn.cell b0
  replace b1 := nn.cell b1
  replace b2 := nn.cell b2
  replace c0 := nn.cell c0
  replace c1 := nn.cell c1
  replace c2 := nn.cell c2
  clear nn n3 d0 d1 d2 d3 d4 d5 d6 d7 d8
  go_wp2_with fail
  go_ret
  exact ⟨rfl, n4⟩
/-! The row's step. -/
set_option maxRecDepth 100000 in
set_option maxHeartbeats 1000000 in
theorem lifted (os : Os) (started : os.Started) (H : Type) (enc : TypeId × Value → H) :
    ReturnsInHanded {} Try.checked os 7 .any (Rows.valueRingSpec.pre6 enc Try.prog Try.f7 Rows.valueRingRow.domain false)
      (Rows.valueRingSpec.post enc Try.prog Try.f7 false true false false) := by
  refine returnsInHanded_of_change (C := Try.checked) own started (by kernel_rfl) Try.func7
    (ChangeSpec.witness6 (enc := enc) (C := Try.checked) false ⟨#[], #[.int .i64 0, .int .i64 0, .int .i64 0], []⟩ 8 (by kernel_rfl) (by kernel_rfl) (by kernel_rfl) (by kernel_rfl)) ?_
  intro W base args ds gs before hval0 hW _ _
  have hval : ∀ (j : Nat) t v, Try.f7.params[j]? = some t → args[j]? = some v → Value.okWide Try.prog W .any base t v := hval0
  have hW' := hW
  obtain ⟨p, q, hA0, hV, rfl, hfz, hnd⟩ := hW
  have hA1 : DataW.TrodAll enc Try.prog W 0 (fun _ => true) true Try.f7.params.toList args.toList ds p := hA0
  have hA := hA1
  rw [Try.params7] at hA hval
  obtain ⟨v0, vs0, d0, ds0, p0, q0, hargs0, rfl, -, h0, r0⟩ := trodAll_cons hA
  obtain ⟨v1, vs1, d1, ds1, p1, q1, hargs1, rfl, -, h1, r1⟩ := trodAll_cons r0
  obtain ⟨v2, vs2, d2, ds2, p2, q2, hargs2, rfl, -, h2, r2⟩ := trodAll_cons r1
  obtain ⟨rfl, rfl, -⟩ := trodAll_nil r2
  obtain rfl : args = #[v0, v1, v2] := by cases args; simp_all
  obtain ⟨rfl, rfl⟩ := trodVars_none hV
  obtain ⟨n0, rfl, -, -, w0⟩ := open_int Try.underlying3 (hval 0 3 v0 rfl rfl) h0
  obtain ⟨n1, rfl, -, -, w1⟩ := open_int Try.underlying3 (hval 1 3 v1 rfl rfl) h1
  obtain ⟨n2, rfl, -, -, w2⟩ := open_int Try.underlying3 (hval 2 3 v2 rfl rfl) h2
  clear hval0
  simp only [List.append_nil] at hW'
  refine (walk n0 n1 n2 (i64_of w0) (i64_of w1) (i64_of w2) W ).mono fun e W' ⟨he, hg⟩ => ?_
  subst he
  exact ⟨_, rfl, post_of_nb (pa := p) (pv := []) hW' (fun _ _ _ => (trodAll_cons_mk (shut_bool Try.underlying4 _) trodAll_mk0))
    (fun sp hsp => args_stay (by kernel_rfl) hg hA1 (fun t ht => by
      have h0 : (Try.f7.params.toList.all fun t => Try.prog.readableRec t && decide (t < Try.prog.types.size)) = true := by kernel_rfl
      have h1 := List.all_eq_true.1 h0 t ht
      rw [Bool.and_eq_true, decide_eq_true_eq] at h1
      exact h1) (fun x hx => hW'.lt x hx) hsp)
    (fun _ _ => rfl) (by simp) hg (ok_one (by kernel_rfl) rfl (okWide_bool_mk Try.underlying4 _))⟩
theorem over : Rows.valueRingRow.holds Try.pinned (OpenSpec.ofChange Rows.valueRingSpec) :=
  OpenClaim.holds_of_wide 7 Try.f7 rfl rfl rfl rfl rfl rfl rfl ⟨rfl, rfl, rfl, rfl, rfl⟩ rfl rfl rfl rfl rfl (by kernel_rfl) Try.func7 (by kernel_rfl)
    (of_decide_eq_true (by kernel_rfl)) (by unfold Func.isWrapper; first | (rw [if_pos (by decide +kernel)]; kernel_rfl) | (rw [if_neg (by decide +kernel)]; exact ⟨rfl, rfl⟩))
    (fun os started H enc _ => lifted os started H enc)
/-- The statement. -/
theorem proved : Rows.ValueRingSaid := over
#print axioms proved
end Go.Proofs.Ytmoggaecnjcjfaa.valueRing
