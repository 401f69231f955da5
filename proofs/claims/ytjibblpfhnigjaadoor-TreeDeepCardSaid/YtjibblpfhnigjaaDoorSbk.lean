/-
  Proved here: what '==' of two heads answers. Conditions: none.
-/
import Derived.Test.YtjibblpfhnigjaaDoorSaz
import Derived.ChangeKeysEq
namespace Go.Proofs.YtjibblpfhnigjaaDoor
open Go.RowKit
set_option linter.unusedVariables false
set_option linter.unusedSimpArgs false
set_option maxRecDepth 100000
set_option maxHeartbeats 4000000
theorem eq_stepT {P : Program} {d : Nat} {xs ys : Array Value} {f : Field} {fs : List Field} {w : World} {a b : Value} {r : Bool} (hn : f.name ≠ "_") (p1 : (part f.type xs f.offset).run P w = .ok a w) (p2 : (part f.type ys f.offset).run P w = .ok b w) (p3 : (Op.equalIn d f.type a b).run P w = .ok r w) :
    (Op.eqFields d xs ys (f :: fs)).run P w = if r = true then (Op.eqFields d xs ys fs).run P w else .ok false w := by
  simp only [Op.eqFields, if_pos hn, Sem.run_bind, p1, p2, p3, Result.andThen_ok]
  cases r <;> simp
theorem eq_strT (a b : Bs) (w : World) (d : Nat) : (Op.equalIn (d + 1) 9 (sV a) (sV b)).run Tryd.prog w = .ok (a == b) w := by
  rw [run_equalIn_string (P := Tryd.prog) w d 9 ⟨a.toArray⟩ ⟨b.toArray⟩ Tryd.underlying9]
  congr 1
  rw [ByteArray.toList_eq, ByteArray.toList_eq]
theorem eq_natT (a b : Nat) (w : World) (d : Nat) : (Op.equalIn (d + 1) 3 (nV a) (nV b)).run Tryd.prog w = .ok (a == b) w := by
  rw [run_equalIn_int (P := Tryd.prog) w d 3 .i64 .i64 (a : Int) (b : Int) Tryd.underlying3]
  congr 1
  rw [Bool.eq_iff_iff, beq_iff_eq, beq_iff_eq]
  omega
theorem fields_T : ∃ f0 f1 f2 f3 f4 f5 f6 f7 f8 f9 f10 f11 : Field, (Tryd.prog.fieldsOf 52).toList = [f0, f1, f2, f3, f4, f5, f6, f7, f8, f9, f10, f11] ∧ (f0.name ≠ "_" ∧ f0.type = 3 ∧ f0.offset = 0) ∧ (f1.name ≠ "_" ∧ f1.type = 3 ∧ f1.offset = 1) ∧ (f2.name ≠ "_" ∧ f2.type = 9 ∧ f2.offset = 2) ∧ (f3.name ≠ "_" ∧ f3.type = 9 ∧ f3.offset = 3) ∧ (f4.name ≠ "_" ∧ f4.type = 3 ∧ f4.offset = 4) ∧ (f5.name ≠ "_" ∧ f5.type = 4 ∧ f5.offset = 5)
    ∧ (f6.name ≠ "_" ∧ f6.type = 3 ∧ f6.offset = 6) ∧ (f7.name ≠ "_" ∧ f7.type = 3 ∧ f7.offset = 7) ∧ (f8.name ≠ "_" ∧ f8.type = 3 ∧ f8.offset = 8) ∧ (f9.name ≠ "_" ∧ f9.type = 3 ∧ f9.offset = 9) ∧ (f10.name ≠ "_" ∧ f10.type = 3 ∧ f10.offset = 10) ∧ (f11.name ≠ "_" ∧ f11.type = 3 ∧ f11.offset = 11) := by
  unfold Program.fieldsOf
  rw [Tryd.underlying52]
  exact ⟨_, _, _, _, _, _, _, _, _, _, _, _, rfl, ⟨by decide, rfl, rfl⟩, ⟨by decide, rfl, rfl⟩, ⟨by decide, rfl, rfl⟩, ⟨by decide, rfl, rfl⟩, ⟨by decide, rfl, rfl⟩, ⟨by decide, rfl, rfl⟩, ⟨by decide, rfl, rfl⟩, ⟨by decide, rfl, rfl⟩, ⟨by decide, rfl, rfl⟩, ⟨by decide, rfl, rfl⟩, ⟨by decide, rfl, rfl⟩, ⟨by decide, rfl, rfl⟩⟩
theorem if_and (a b : Bool) (w : World) : (if a = true then (Result.ok b w : Result Bool) else .ok false w) = .ok (a && b) w := by cases a <;> rfl
theorem eq_head (a b : Hd) (w : World) : (binOp .eql 52 (.agg a.cells) (.agg b.cells)).run Tryd.prog w = .ok (.bool (eqH a b)) w := by
  obtain ⟨f0, f1, f2, f3, f4, f5, f6, f7, f8, f9, f10, f11, he, ⟨n0, t0, o0⟩, ⟨n1, t1, o1⟩, ⟨n2, t2, o2⟩, ⟨n3, t3, o3⟩, ⟨n4, t4, o4⟩, ⟨n5, t5, o5⟩, ⟨n6, t6, o6⟩, ⟨n7, t7, o7⟩, ⟨n8, t8, o8⟩, ⟨n9, t9, o9⟩, ⟨n10, t10, o10⟩, ⟨n11, t11, o11⟩⟩ := fields_T
  have hu : Tryd.prog.underlying 52 = some (.struct (Tryd.prog.fieldsOf 52)) := by kernel_rfl
  have hp : Tryd.prog.stoodInHeld 52 = false := by kernel_rfl
  have ki : Tryd.prog.plainKey 3 = true := by kernel_rfl
  have ks : Tryd.prog.plainKey 9 = true := by kernel_rfl
  have kb : Tryd.prog.plainKey 4 = true := by kernel_rfl
  have e0 := run_equalIn_int (P := Tryd.prog) w 9998 3 .i64 .i64 a.sort b.sort Tryd.underlying3
  have e1 := run_equalIn_int (P := Tryd.prog) w 9998 3 .i64 .i64 a.kind b.kind Tryd.underlying3
  have e4 := run_equalIn_int (P := Tryd.prog) w 9998 3 .i64 .i64 a.n b.n Tryd.underlying3
  have e5 := run_equalIn_bool (P := Tryd.prog) w 9998 4 a.late b.late Tryd.underlying4
  have pI : ∀ (c : Hd) (k : Nat) (v : Value), c.cells[k]? = some v → (part 3 c.cells k).run Tryd.prog w = .ok v w := fun c k v h => run_part_plain (P := Tryd.prog) w ki h
  have pS : ∀ (c : Hd) (k : Nat) (v : Value), c.cells[k]? = some v → (part 9 c.cells k).run Tryd.prog w = .ok v w := fun c k v h => run_part_plain (P := Tryd.prog) w ks h
  have pB : ∀ (c : Hd) (k : Nat) (v : Value), c.cells[k]? = some v → (part 4 c.cells k).run Tryd.prog w = .ok v w := fun c k v h => run_part_plain (P := Tryd.prog) w kb h
  rw [run_eql_struct, run_equalIn_struct w 9999 _ _ _ hu hp, he]
  rw [eq_stepT n0 (by rw [t0, o0]; exact pI a 0 _ rfl) (by rw [t0, o0]; exact pI b 0 _ rfl) (by rw [t0]; exact e0)]
  rw [eq_stepT n1 (by rw [t1, o1]; exact pI a 1 _ rfl) (by rw [t1, o1]; exact pI b 1 _ rfl) (by rw [t1]; exact e1)]
  rw [eq_stepT n2 (by rw [t2, o2]; exact pS a 2 _ rfl) (by rw [t2, o2]; exact pS b 2 _ rfl) (by rw [t2]; exact eq_strT a.name b.name w 9998)]
  rw [eq_stepT n3 (by rw [t3, o3]; exact pS a 3 _ rfl) (by rw [t3, o3]; exact pS b 3 _ rfl) (by rw [t3]; exact eq_strT a.actor b.actor w 9998)]
  rw [eq_stepT n4 (by rw [t4, o4]; exact pI a 4 _ rfl) (by rw [t4, o4]; exact pI b 4 _ rfl) (by rw [t4]; exact e4)]
  rw [eq_stepT n5 (by rw [t5, o5]; exact pB a 5 _ rfl) (by rw [t5, o5]; exact pB b 5 _ rfl) (by rw [t5]; exact e5)]
  rw [eq_stepT n6 (by rw [t6, o6]; exact pI a 6 _ rfl) (by rw [t6, o6]; exact pI b 6 _ rfl) (by rw [t6]; exact eq_natT a.defs b.defs w 9998)]
  rw [eq_stepT n7 (by rw [t7, o7]; exact pI a 7 _ rfl) (by rw [t7, o7]; exact pI b 7 _ rfl) (by rw [t7]; exact eq_natT a.params b.params w 9998)]
  rw [eq_stepT n8 (by rw [t8, o8]; exact pI a 8 _ rfl) (by rw [t8, o8]; exact pI b 8 _ rfl) (by rw [t8]; exact eq_natT a.stmts b.stmts w 9998)]
  rw [eq_stepT n9 (by rw [t9, o9]; exact pI a 9 _ rfl) (by rw [t9, o9]; exact pI b 9 _ rfl) (by rw [t9]; exact eq_natT a.args b.args w 9998)]
  rw [eq_stepT n10 (by rw [t10, o10]; exact pI a 10 _ rfl) (by rw [t10, o10]; exact pI b 10 _ rfl) (by rw [t10]; exact eq_natT a.parts b.parts w 9998)]
  rw [eq_stepT n11 (by rw [t11, o11]; exact pI a 11 _ rfl) (by rw [t11, o11]; exact pI b 11 _ rfl) (by rw [t11]; exact eq_natT a.arms b.arms w 9998)]
  rw [show (Op.eqFields 9999 a.cells b.cells []).run Tryd.prog w = .ok true w by simp [Op.eqFields]]
  simp only [if_and, Result.andThen_ok, Bool.and_true, eqH]
end Go.Proofs.YtjibblpfhnigjaaDoor
