/-
  Proved here: what '==' of two heads answers. Conditions: none. ¦ of lex: digit, named, Keyword, Name. Conditions: a byte is one; a text is not too long. ¦ of lex: Name, between, nameEnd, number. Conditions: the slice holds the source.
-/
import Derived.Test.YtojogolmcclpoaaDoorSau
import Derived.Test.YtojogolmcclpoaaDoorSaa
import Derived.ChangeKeysEq
import Derived.Deep.Slices
import Derived.WalkMore
section
namespace Go.Proofs.YtojogolmcclpoaaDoor
open Go.RowKit
set_option linter.unusedVariables false
set_option linter.unusedSimpArgs false
set_option maxRecDepth 100000
set_option maxHeartbeats 4000000
theorem eq_stepT {P : Program} {d : Nat} {xs ys : Array Value} {f : Field} {fs : List Field} {w : World} {a b : Value} {r : Bool} (hn : f.name ≠ "_") (p1 : (part f.type xs f.offset).run P w = .ok a w) (p2 : (part f.type ys f.offset).run P w = .ok b w) (p3 : (Op.equalIn d f.type a b).run P w = .ok r w) :
    (Op.eqFields d xs ys (f :: fs)).run P w = if r = true then (Op.eqFields d xs ys fs).run P w else .ok false w := by
  simp only [Op.eqFields, if_pos hn, Sem.run_bind, p1, p2, p3, Result.andThen_ok]
  cases r <;> simp
theorem eq_strT (a b : Bs) (w : World) (d : Nat) : (Op.equalIn (d + 1) 9 (sV a) (sV b)).run Tryd.prog w = .ok (a == b) w := by
  rw [run_equalIn_string (P := Tryd.prog) w d 9 ⟨a.toArray⟩ ⟨b.toArray⟩ Tryd.underlying9]
  congr 1
  rw [ByteArray.toList_eq, ByteArray.toList_eq]
theorem eq_natT (a b : Nat) (w : World) (d : Nat) : (Op.equalIn (d + 1) 3 (nV a) (nV b)).run Tryd.prog w = .ok (a == b) w := by
  rw [run_equalIn_int (P := Tryd.prog) w d 3 .i64 .i64 (a : Int) (b : Int) Tryd.underlying3]
  congr 1
  rw [Bool.eq_iff_iff, beq_iff_eq, beq_iff_eq]
  omega
theorem fields_T : ∃ f0 f1 f2 f3 f4 f5 f6 f7 f8 f9 f10 f11 : Field, (Tryd.prog.fieldsOf 34).toList = [f0, f1, f2, f3, f4, f5, f6, f7, f8, f9, f10, f11] ∧ (f0.name ≠ "_" ∧ f0.type = 3 ∧ f0.offset = 0) ∧ (f1.name ≠ "_" ∧ f1.type = 3 ∧ f1.offset = 1) ∧ (f2.name ≠ "_" ∧ f2.type = 9 ∧ f2.offset = 2) ∧ (f3.name ≠ "_" ∧ f3.type = 9 ∧ f3.offset = 3) ∧ (f4.name ≠ "_" ∧ f4.type = 3 ∧ f4.offset = 4) ∧ (f5.name ≠ "_" ∧ f5.type = 4 ∧ f5.offset = 5)
    ∧ (f6.name ≠ "_" ∧ f6.type = 3 ∧ f6.offset = 6) ∧ (f7.name ≠ "_" ∧ f7.type = 3 ∧ f7.offset = 7) ∧ (f8.name ≠ "_" ∧ f8.type = 3 ∧ f8.offset = 8) ∧ (f9.name ≠ "_" ∧ f9.type = 3 ∧ f9.offset = 9) ∧ (f10.name ≠ "_" ∧ f10.type = 3 ∧ f10.offset = 10) ∧ (f11.name ≠ "_" ∧ f11.type = 3 ∧ f11.offset = 11) := by
  unfold Program.fieldsOf
  rw [Tryd.underlying34]
  exact ⟨_, _, _, _, _, _, _, _, _, _, _, _, rfl, ⟨by decide, rfl, rfl⟩, ⟨by decide, rfl, rfl⟩, ⟨by decide, rfl, rfl⟩, ⟨by decide, rfl, rfl⟩, ⟨by decide, rfl, rfl⟩, ⟨by decide, rfl, rfl⟩, ⟨by decide, rfl, rfl⟩, ⟨by decide, rfl, rfl⟩, ⟨by decide, rfl, rfl⟩, ⟨by decide, rfl, rfl⟩, ⟨by decide, rfl, rfl⟩, ⟨by decide, rfl, rfl⟩⟩
theorem if_and (a b : Bool) (w : World) : (if a = true then (Result.ok b w : Result Bool) else .ok false w) = .ok (a && b) w := by cases a <;> rfl
theorem eq_head (a b : Hd) (w : World) : (binOp .eql 34 (.agg a.cells) (.agg b.cells)).run Tryd.prog w = .ok (.bool (eqH a b)) w := by
  obtain ⟨f0, f1, f2, f3, f4, f5, f6, f7, f8, f9, f10, f11, he, ⟨n0, t0, o0⟩, ⟨n1, t1, o1⟩, ⟨n2, t2, o2⟩, ⟨n3, t3, o3⟩, ⟨n4, t4, o4⟩, ⟨n5, t5, o5⟩, ⟨n6, t6, o6⟩, ⟨n7, t7, o7⟩, ⟨n8, t8, o8⟩, ⟨n9, t9, o9⟩, ⟨n10, t10, o10⟩, ⟨n11, t11, o11⟩⟩ := fields_T
  have hu : Tryd.prog.underlying 34 = some (.struct (Tryd.prog.fieldsOf 34)) := by kernel_rfl
  have hp : Tryd.prog.stoodInHeld 34 = false := by kernel_rfl
  have ki : Tryd.prog.plainKey 3 = true := by kernel_rfl
  have ks : Tryd.prog.plainKey 9 = true := by kernel_rfl
  have kb : Tryd.prog.plainKey 4 = true := by kernel_rfl
  have e0 := run_equalIn_int (P := Tryd.prog) w 9998 3 .i64 .i64 a.sort b.sort Tryd.underlying3
  have e1 := run_equalIn_int (P := Tryd.prog) w 9998 3 .i64 .i64 a.kind b.kind Tryd.underlying3
  have e4 := run_equalIn_int (P := Tryd.prog) w 9998 3 .i64 .i64 a.n b.n Tryd.underlying3
  have e5 := run_equalIn_bool (P := Tryd.prog) w 9998 4 a.late b.late Tryd.underlying4
  have pI : ∀ (c : Hd) (k : Nat) (v : Value), c.cells[k]? = some v → (part 3 c.cells k).run Tryd.prog w = .ok v w := fun c k v h => run_part_plain (P := Tryd.prog) w ki h
  have pS : ∀ (c : Hd) (k : Nat) (v : Value), c.cells[k]? = some v → (part 9 c.cells k).run Tryd.prog w = .ok v w := fun c k v h => run_part_plain (P := Tryd.prog) w ks h
  have pB : ∀ (c : Hd) (k : Nat) (v : Value), c.cells[k]? = some v → (part 4 c.cells k).run Tryd.prog w = .ok v w := fun c k v h => run_part_plain (P := Tryd.prog) w kb h
  rw [run_eql_struct, run_equalIn_struct w 9999 _ _ _ hu hp, he]
  rw [eq_stepT n0 (by rw [t0, o0]; exact pI a 0 _ rfl) (by rw [t0, o0]; exact pI b 0 _ rfl) (by rw [t0]; exact e0)]
  rw [eq_stepT n1 (by rw [t1, o1]; exact pI a 1 _ rfl) (by rw [t1, o1]; exact pI b 1 _ rfl) (by rw [t1]; exact e1)]
  rw [eq_stepT n2 (by rw [t2, o2]; exact pS a 2 _ rfl) (by rw [t2, o2]; exact pS b 2 _ rfl) (by rw [t2]; exact eq_strT a.name b.name w 9998)]
  rw [eq_stepT n3 (by rw [t3, o3]; exact pS a 3 _ rfl) (by rw [t3, o3]; exact pS b 3 _ rfl) (by rw [t3]; exact eq_strT a.actor b.actor w 9998)]
  rw [eq_stepT n4 (by rw [t4, o4]; exact pI a 4 _ rfl) (by rw [t4, o4]; exact pI b 4 _ rfl) (by rw [t4]; exact e4)]
  rw [eq_stepT n5 (by rw [t5, o5]; exact pB a 5 _ rfl) (by rw [t5, o5]; exact pB b 5 _ rfl) (by rw [t5]; exact e5)]
  rw [eq_stepT n6 (by rw [t6, o6]; exact pI a 6 _ rfl) (by rw [t6, o6]; exact pI b 6 _ rfl) (by rw [t6]; exact eq_natT a.defs b.defs w 9998)]
  rw [eq_stepT n7 (by rw [t7, o7]; exact pI a 7 _ rfl) (by rw [t7, o7]; exact pI b 7 _ rfl) (by rw [t7]; exact eq_natT a.params b.params w 9998)]
  rw [eq_stepT n8 (by rw [t8, o8]; exact pI a 8 _ rfl) (by rw [t8, o8]; exact pI b 8 _ rfl) (by rw [t8]; exact eq_natT a.stmts b.stmts w 9998)]
  rw [eq_stepT n9 (by rw [t9, o9]; exact pI a 9 _ rfl) (by rw [t9, o9]; exact pI b 9 _ rfl) (by rw [t9]; exact eq_natT a.args b.args w 9998)]
  rw [eq_stepT n10 (by rw [t10, o10]; exact pI a 10 _ rfl) (by rw [t10, o10]; exact pI b 10 _ rfl) (by rw [t10]; exact eq_natT a.parts b.parts w 9998)]
  rw [eq_stepT n11 (by rw [t11, o11]; exact pI a 11 _ rfl) (by rw [t11, o11]; exact pI b 11 _ rfl) (by rw [t11]; exact eq_natT a.arms b.arms w 9998)]
  rw [show (Op.eqFields 9999 a.cells b.cells []).run Tryd.prog w = .ok true w by simp [Op.eqFields]]
  simp only [if_and, Result.andThen_ok, Bool.and_true, eqH]
end Go.Proofs.YtojogolmcclpoaaDoor
end
section
namespace Go.Proofs.YtojogolmcclpoaaDoor
open Go.RowKit
set_option linter.unusedVariables false
set_option linter.unusedSimpArgs false
set_option maxRecDepth 100000
set_option maxHeartbeats 2000000
theorem then_exit {K : Act → World → Prop} {Q : Exit → Act → World → Prop} {k : Nat} {a : Act} {w : World} (h : Q (.exit k) a w) : Exit.then K Q (.exit k) a w := h
theorem in_same {Q : Exit → Act → World → Prop} {k : Nat} {a : Act} {w : World} (h : Q .normal a w) : Exit.inBlock k Q (.exit k) a w := by
  simp only [Exit.inBlock, if_true]; exact h
theorem in_other {Q : Exit → Act → World → Prop} {i k : Nat} {a : Act} {w : World} (hk : (k == i) = false) (h : Q (.exit k) a w) : Exit.inBlock i Q (.exit k) a w := by
  have : ¬ k = i := by simpa using hk
  simp only [Exit.inBlock, this, if_false]; exact h
theorem then_ret {K : Act → World → Prop} {Q : Exit → Act → World → Prop} {a : Act} {w : World} (h : Q .ret a w) : Exit.then K Q .ret a w := h
theorem in_ret {Q : Exit → Act → World → Prop} {i : Nat} {a : Act} {w : World} (h : Q .ret a w) : Exit.inBlock i Q .ret a w := h
theorem digit_any (x : Int) (w : World) : Calls Tryd.prog 72 #[.int .u8 x] w fun e w' => e = .returned (.bool (digI x)) ∧ w = w' := by
  unfold digI
  by_cases h1 : 48 ≤ x
  · by_cases h2 : x ≤ 57
    · go_enter Tryd.func72, Tryd.ntmps72
      go_wp2
      go_ret
      exact ⟨by simp [h1, h2], rfl⟩
    · go_enter Tryd.func72, Tryd.ntmps72
      go_wp2
      go_ret
      exact ⟨by simp [h1]; omega, rfl⟩
  · go_enter Tryd.func72, Tryd.ntmps72
    go_wp2
    go_ret
    exact ⟨by simp; omega, rfl⟩
theorem named_dig (x : Int) (f : Bool) (hd : digI x = true) (w : World) : Calls Tryd.prog 62 #[.int .u8 x, .bool f] w fun e w' => e = .returned (.bool (!f)) ∧ w = w' := by
  cases f with
  | true =>
    go_enter Tryd.func62, Tryd.ntmps62
    repeat (first | (with_reducible first | refine then_exit ?_ | refine in_same ?_ | refine then_ret ?_ | refine in_ret ?_) | ((with_reducible refine in_other ?_ ?_); decide) | go_values | go_skip | go_guarded | go_step | go_upon | go_back)
    refine (digit_any x _).mono ?_
    rintro e w1 ⟨rfl, rfl⟩
    rw [hd]
    dsimp only
    repeat (first | (with_reducible first | refine then_exit ?_ | refine in_same ?_ | refine then_ret ?_ | refine in_ret ?_) | ((with_reducible refine in_other ?_ ?_); decide) | go_values | go_skip | go_guarded | go_step | go_upon | go_back)
    go_ret
    exact ⟨rfl, rfl⟩
  | false =>
    go_enter Tryd.func62, Tryd.ntmps62
    repeat (first | (with_reducible first | refine then_exit ?_ | refine in_same ?_ | refine then_ret ?_ | refine in_ret ?_) | ((with_reducible refine in_other ?_ ?_); decide) | go_values | go_skip | go_guarded | go_step | go_upon | go_back)
    refine (digit_any x _).mono ?_
    rintro e w1 ⟨rfl, rfl⟩
    rw [hd]
    dsimp only
    repeat (first | (with_reducible first | refine then_exit ?_ | refine in_same ?_ | refine then_ret ?_ | refine in_ret ?_) | ((with_reducible refine in_other ?_ ?_); decide) | go_values | go_skip | go_guarded | go_step | go_upon | go_back)
    go_ret
    exact ⟨rfl, rfl⟩
theorem named_let (x : Int) (f : Bool) (hd : digI x = false) (w : World) : Calls Tryd.prog 62 #[.int .u8 x, .bool f] w fun e w' => e = .returned (.bool (ltrI x)) ∧ w = w' := by
  have hq : (97 ≤ x ∧ x ≤ 122) ∨ (65 ≤ x ∧ x ≤ 90) ∨ x = 95 ∨ (x < 65) ∨ (90 < x ∧ x < 95) ∨ x = 96 ∨ 122 < x := by omega
  go_enter Tryd.func62, Tryd.ntmps62
  repeat (first | (with_reducible first | refine then_exit ?_ | refine in_same ?_ | refine then_ret ?_ | refine in_ret ?_) | ((with_reducible refine in_other ?_ ?_); decide) | go_values | go_skip | go_guarded | go_step | go_upon | go_back)
  refine (digit_any x _).mono ?_
  rintro e w1 ⟨rfl, rfl⟩
  rw [hd]
  dsimp only
  rcases hq with ⟨h1, h2⟩ | ⟨h1, h2⟩ | h1 | h1 | ⟨h1, h2⟩ | h1 | h1
  · have e0 : ltrI x = true := by unfold ltrI; simp; omega
    repeat (first | (with_reducible first | refine then_exit ?_ | refine in_same ?_ | refine then_ret ?_ | refine in_ret ?_) | ((with_reducible refine in_other ?_ ?_); decide) | go_values | go_skip | go_guarded | go_step | go_upon | go_back)
    go_ret
    exact ⟨by rw [e0]; rfl, rfl⟩
  · have e0 : ltrI x = true := by unfold ltrI; simp; omega
    repeat (first | (with_reducible first | refine then_exit ?_ | refine in_same ?_ | refine then_ret ?_ | refine in_ret ?_) | ((with_reducible refine in_other ?_ ?_); decide) | go_values | go_skip | go_guarded | go_step | go_upon | go_back)
    go_ret
    exact ⟨by rw [e0]; rfl, rfl⟩
  · subst h1
    repeat (first | (with_reducible first | refine then_exit ?_ | refine in_same ?_ | refine then_ret ?_ | refine in_ret ?_) | ((with_reducible refine in_other ?_ ?_); decide) | go_values | go_skip | go_guarded | go_step | go_upon | go_back)
    go_ret
    exact ⟨rfl, rfl⟩
  · have e0 : ltrI x = false := by unfold ltrI; simp; omega
    repeat (first | (with_reducible first | refine then_exit ?_ | refine in_same ?_ | refine then_ret ?_ | refine in_ret ?_) | ((with_reducible refine in_other ?_ ?_); decide) | go_values | go_skip | go_guarded | go_step | go_upon | go_back)
    go_ret
    exact ⟨by rw [e0]; rfl, rfl⟩
  · have e0 : ltrI x = false := by unfold ltrI; simp; omega
    repeat (first | (with_reducible first | refine then_exit ?_ | refine in_same ?_ | refine then_ret ?_ | refine in_ret ?_) | ((with_reducible refine in_other ?_ ?_); decide) | go_values | go_skip | go_guarded | go_step | go_upon | go_back)
    go_ret
    exact ⟨by rw [e0]; rfl, rfl⟩
  · subst h1
    repeat (first | (with_reducible first | refine then_exit ?_ | refine in_same ?_ | refine then_ret ?_ | refine in_ret ?_) | ((with_reducible refine in_other ?_ ?_); decide) | go_values | go_skip | go_guarded | go_step | go_upon | go_back)
    go_ret
    exact ⟨rfl, rfl⟩
  · have e0 : ltrI x = false := by unfold ltrI; simp; omega
    repeat (first | (with_reducible first | refine then_exit ?_ | refine in_same ?_ | refine then_ret ?_ | refine in_ret ?_) | ((with_reducible refine in_other ?_ ?_); decide) | go_values | go_skip | go_guarded | go_step | go_upon | go_back)
    go_ret
    exact ⟨by rw [e0]; rfl, rfl⟩
theorem named_any (x : Int) (f : Bool) (w : World) : Calls Tryd.prog 62 #[.int .u8 x, .bool f] w fun e w' => e = .returned (.bool (namI x f)) ∧ w = w' := by
  cases hd : digI x with
  | true => unfold namI; rw [if_pos hd]; exact named_dig x f hd w
  | false => unfold namI; rw [if_neg (by rw [hd]; simp)]; exact named_let x f hd w
theorem kw_any (l : Bs) (w : World) : Calls Tryd.prog 61 #[.string ⟨l.toArray⟩] w fun e w' => e = .returned (.bool (kwS l)) ∧ w = w' := by
  by_cases h : l ∈ kwL
  · have e : kwS l = true := by unfold kwS; exact List.contains_iff_mem.2 h
    rw [e]
    clear e
    simp only [kwL, List.mem_cons, List.not_mem_nil, or_false] at h
    rcases h with rfl | rfl | rfl | rfl | rfl | rfl | rfl | rfl | rfl | rfl | rfl | rfl | rfl | rfl | rfl <;>
    · go_enter Tryd.func61, Tryd.ntmps61
      repeat (first | (with_reducible first | refine then_exit ?_ | refine in_same ?_ | refine then_ret ?_ | refine in_ret ?_) | ((with_reducible refine in_other ?_ ?_); decide) | go_values | go_skip | go_guarded | go_step | go_upon | go_back)
      go_ret
      exact ⟨rfl, rfl⟩
  · have e : kwS l = false := by
      cases h1 : kwS l with
      | false => rfl
      | true => exact absurd (List.contains_iff_mem.1 h1) h
    rw [e]
    clear e
    simp only [kwL, List.mem_cons, List.not_mem_nil, or_false, not_or] at h
    obtain ⟨h0, h1, h2, h3, h4, h5, h6, h7, h8, h9, h10, h11, h12, h13, h14⟩ := h
    replace h0 := beq_eq_false_iff_ne.2 h0
    replace h1 := beq_eq_false_iff_ne.2 h1
    replace h2 := beq_eq_false_iff_ne.2 h2
    replace h3 := beq_eq_false_iff_ne.2 h3
    replace h4 := beq_eq_false_iff_ne.2 h4
    replace h5 := beq_eq_false_iff_ne.2 h5
    replace h6 := beq_eq_false_iff_ne.2 h6
    replace h7 := beq_eq_false_iff_ne.2 h7
    replace h8 := beq_eq_false_iff_ne.2 h8
    replace h9 := beq_eq_false_iff_ne.2 h9
    replace h10 := beq_eq_false_iff_ne.2 h10
    replace h11 := beq_eq_false_iff_ne.2 h11
    replace h12 := beq_eq_false_iff_ne.2 h12
    replace h13 := beq_eq_false_iff_ne.2 h13
    replace h14 := beq_eq_false_iff_ne.2 h14
    go_enter Tryd.func61, Tryd.ntmps61
    repeat (first | (with_reducible first | refine then_exit ?_ | refine in_same ?_ | refine then_ret ?_ | refine in_ret ?_) | ((with_reducible refine in_other ?_ ?_); decide) | go_values | go_skip | go_guarded | go_step | go_upon | go_back)
    go_ret
    exact ⟨rfl, rfl⟩
end Go.Proofs.YtojogolmcclpoaaDoor
end
section
namespace Go.Proofs.YtojogolmcclpoaaDoor
open Go.RowKit
set_option linter.unusedVariables false
set_option linter.unusedSimpArgs false
set_option maxRecDepth 100000
set_option maxHeartbeats 2000000
theorem allN_drop (l : Bs) (k : Nat) (hk : k < l.length) (f : Bool) : allN (l.drop k) f = (namI (bI l[k]) f && allN (l.drop (k + 1)) false) := by
  rw [List.drop_eq_getElem_cons hk]; rfl
theorem name_any (l : Bs) (hl : l.length ≤ 9223372036854775807) (w : World) : Calls Tryd.prog 48 #[.string ⟨l.toArray⟩] w fun e w' => e = .returned (.bool (nameS l)) ∧ w = w' := by
  have hA := Lib.hid hl
  obtain ⟨N, hN⟩ : ∃ N, nameS l = N := ⟨_, rfl⟩
  rw [hN]
  unfold nameS at hN
  have hkw := Lib.hid (kw_any l)
  by_cases h1 : l.length < 1
  · have e : N = false := by rw [← hN]; simp; omega
    subst e
    clear hN hkw
    go_enter Tryd.func48, Tryd.ntmps48
    go_wp2_with fail
    go_ret
    first | exact ⟨rfl, rfl⟩ | exact ⟨trivial, rfl⟩
  · by_cases h2 : 32 < l.length
    · have e : N = false := by rw [← hN]; simp; omega
      subst e
      clear hN hkw
      go_enter Tryd.func48, Tryd.ntmps48
      go_wp2_with fail
      go_ret
      first | exact ⟨rfl, rfl⟩ | exact ⟨trivial, rfl⟩
    · cases h3 : kwS l with
      | true =>
        have e : N = false := by rw [← hN, h3]; simp
        subst e
        clear hN
        rw [h3] at hkw
        go_enter Tryd.func48, Tryd.ntmps48
        go_wp2_with (go_at_call 61; refine (hkw.out _).mono ?_; rintro e w1 ⟨rfl, rfl⟩)
        go_ret
        first | exact ⟨rfl, rfl⟩ | exact ⟨trivial, rfl⟩
      | false =>
        have e : allN l true = N := by
          rw [h3] at hN
          simp at hN
          rw [← hN]
          have : 1 ≤ l.length := by omega
          have : l.length ≤ 32 := by omega
          simp [*]
        clear hN
        rw [h3] at hkw
        have he := Lib.hid e
        clear e
        go_enter Tryd.func48, Tryd.ntmps48
        go_upto_region 3 with (go_at_call 61; refine (hkw.out _).mono ?_; rintro e w1 ⟨rfl, rfl⟩)
        go_wp2_with fail
        go_loopw [18] (fun i wr => ∃ k : Nat, k ≤ l.length ∧ i = .int .i64 k ∧ w = wr ∧ Hid (allN (l.drop k) ((k : Int) == 0) = N)) (fun i _ => l.length - (intOf i).toNat)
        case atStart => exact ⟨0, Nat.zero_le _, rfl, rfl, he⟩
        case round =>
          obtain ⟨k, hk, rfl, rfl, hq⟩ := hrel
          by_cases hlt : k < l.length
          · have hx : ∀ p, ((⟨l.toArray⟩ : ByteArray)[k]'p).toNat = (l[k]).toNat := fun _ => rfl
            have hd := hq.out
            rw [allN_drop l k hlt ((k : Int) == 0)] at hd
            have hlt2 : (k : Int) < (l.length : Int) := by omega
            have hnm := named_any (bI l[k]) ((k : Int) == 0) w
            cases hv : namI (bI l[k]) ((k : Int) == 0) with
            | false =>
              rw [hv] at hd hnm
              have hN : N = false := by rw [← hd]; rfl
              subst hN
              have hnm := Lib.hid hnm
              clear hd hv hq
              go_wp2_with (go_at_call 62; refine (hnm.out).mono ?_; rintro e w1 ⟨rfl, rfl⟩)
              go_ret
              first | exact ⟨rfl, rfl⟩ | exact ⟨trivial, rfl⟩
            | true =>
              rw [hv] at hd hnm
              have hz : (((k + 1 : Nat) : Int) == 0) = false := by simp; omega
              have hN := Lib.hid (show allN (l.drop (k + 1)) (((k + 1 : Nat) : Int) == 0) = N by rw [hz]; exact hd)
              have hnm := Lib.hid hnm
              clear hd hv hq hz
              go_wp2_with (go_at_call 62; refine (hnm.out).mono ?_; rintro e w1 ⟨rfl, rfl⟩)
              exact ⟨⟨k + 1, by omega, (by first | rfl | trivial), (by first | rfl | trivial), hN⟩, by simp [intOf] <;> omega⟩
          · obtain rfl : k = l.length := by omega
            have hN : N = true := by rw [← hq.out, List.drop_length]; rfl
            subst hN
            clear hq
            go_wp2_with fail
            go_ret
            first | exact ⟨rfl, rfl⟩ | exact ⟨trivial, rfl⟩
/-- A slice's bytes. -/
def SrcB (w : World) (A : Option Addr) (xs : Bs) : Prop := 0 < xs.length → ∃ ad : Addr, A = some ad ∧ ∀ (j : Nat) (c : UInt8), xs[j]? = some c → w.cell? (ad.add j) = some (.int .u8 (bI c))
theorem SrcB.cell {w : World} {A : Option Addr} {xs : Bs} (h : SrcB w A xs) (k : Nat) (hk : k < xs.length) : ∃ ad : Addr, A = some ad ∧ w.cell? (ad.add k) = some (.int .u8 (bI xs[k])) := by
  obtain ⟨ad, hA, hc⟩ := h (by omega)
  exact ⟨ad, hA, hc k _ (List.getElem?_eq_getElem hk)⟩
theorem SrcB.nb {w w' : World} {A : Option Addr} {xs : Bs} (h : SrcB w A xs) (k : Nb w w') : SrcB w' A xs := by
  intro h0
  obtain ⟨ad, hA, hc⟩ := h h0
  exact ⟨ad, hA, fun j c hj => k.cell (hc j c hj)⟩
end Go.Proofs.YtojogolmcclpoaaDoor
end
