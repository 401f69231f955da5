/-
  Proved here: what '==' of two harts answers. Conditions: there are 32 registers.
-/
import Derived.Test.YtmggichckhoomaaGreatDoorQbn
import Derived.ChangeKeysEq
namespace Go.Proofs.YtmggichckhoomaaGreatDoor
open Go.RowKit
set_option linter.unusedVariables false
set_option linter.unusedSimpArgs false
theorem items_w (d : Nat) (ls ms : List Int) (ha : ls.length = 32) (hb : ms.length = 32) (w : World) : ∀ (is : List Nat), (∀ i ∈ is, i < 32) →
    ∃ r : Bool, (Op.eqItems (d + 1) 22 1 (xV ls).toArray (xV ms).toArray is).run Tryz.prog w = .ok r w ∧ (r = true ↔ ∀ i ∈ is, ls[i]? = ms[i]?)
  | [], _ => ⟨true, by simp [Op.eqItems], by simp⟩
  | i :: is, h => by
    have hi := h i (by simp)
    obtain ⟨r, hr, hiff⟩ := items_w d ls ms ha hb w is (fun j hj => h j (by simp [hj]))
    have p1 : (part 22 (xV ls).toArray (i * 1)).run Tryz.prog w = .ok (.int .u64 ls[i]) w := run_part_plain w (by kernel_rfl) (by rw [Nat.mul_one, List.getElem?_toArray]; exact xV_get ls i (by omega))
    have p2 : (part 22 (xV ms).toArray (i * 1)).run Tryz.prog w = .ok (.int .u64 ms[i]) w := run_part_plain w (by kernel_rfl) (by rw [Nat.mul_one, List.getElem?_toArray]; exact xV_get ms i (by omega))
    have p3 := run_equalIn_int (P := Tryz.prog) w d 22 .u64 .u64 ls[i] ms[i] Tryz.underlying22
    simp only [Op.eqItems, Sem.run_bind, p1, p2, p3, Result.andThen_ok]
    have e1 : ls[i]? = some ls[i] := List.getElem?_eq_getElem (by omega)
    have e2 : ms[i]? = some ms[i] := List.getElem?_eq_getElem (by omega)
    by_cases hq : ls[i] = ms[i]
    · refine ⟨r, by simp [hq, hr], ?_⟩
      rw [hiff]
      simp [e1, e2, hq]
    · refine ⟨false, by simp [hq], ?_⟩
      simp [e1, e2, hq]
theorem arr_eq (d : Nat) (ls ms : List Int) (ha : ls.length = 32) (hb : ms.length = 32) (w : World) : ∃ r : Bool, (Op.equalIn (d + 2) 23 (.agg (xV ls).toArray) (.agg (xV ms).toArray)).run Tryz.prog w = .ok r w ∧ (r = true ↔ ls = ms) := by
  obtain ⟨i, hi⟩ := info_of_underlying (P := Tryz.prog) Tryz.underlying22
  obtain ⟨r, hr, hiff⟩ := items_w d ls ms ha hb w (List.range 32) (fun i hi => List.mem_range.1 hi)
  refine ⟨r, ?_, ?_⟩
  · rw [run_equalIn_array w (d + 1) _ _ Tryz.underlying23 hi, show Tryz.prog.cellsOf 22 = 1 by kernel_rfl]
    exact hr
  · rw [hiff]
    constructor
    · intro h
      apply List.ext_getElem?
      intro k
      by_cases hk : k < 32
      · exact h k (List.mem_range.2 hk)
      · rw [List.getElem?_eq_none (by omega), List.getElem?_eq_none (by omega)]
    · rintro rfl i _
      rfl
theorem part_x (h : HV) (k : h.x.length = 32) (w : World) : (part 23 (hC h).toArray 1).run Tryz.prog w = .ok (.agg (xV h.x).toArray) w := by
  have e : (hC h).toArray.extract 1 (1 + 32) = (xV h.x).toArray := by
    have hx : (xV h.x).length = 32 := by rw [xV_len]; exact k
    apply Array.ext'
    rw [Array.toList_extract]
    show List.take (1 + 32 - 1) (List.drop 1 (hC h)) = xV h.x
    unfold hC
    rw [List.drop_succ_cons, List.drop_zero, List.take_append_of_le_length (by omega), List.take_of_length_le (by omega)]
  have hi := size32
  cases hq : Tryz.prog.info? 23 with
  | none => simp [hq] at hi
  | some j =>
    have hs : j.size = 32 := by simpa [hq] using hi
    have hu := Tryz.underlying23
    have e2 := congrArg Array.toList e
    simp at e2
    simp [part, isAgg, sizeOf, typeInfo, hq, run_underlying hu, hs]
    exact e2
theorem eq_step {P : Program} {d : Nat} {xs ys : Array Value} {f : Field} {fs : List Field} {w : World} {a b : Value} {r : Bool} (hn : f.name ≠ "_") (p1 : (part f.type xs f.offset).run P w = .ok a w) (p2 : (part f.type ys f.offset).run P w = .ok b w) (p3 : (Op.equalIn d f.type a b).run P w = .ok r w) :
    (Op.eqFields d xs ys (f :: fs)).run P w = if r = true then (Op.eqFields d xs ys fs).run P w else .ok false w := by
  simp only [Op.eqFields, if_pos hn, Sem.run_bind, p1, p2, p3, Result.andThen_ok]
  cases r <;> simp
theorem fields_h : ∃ f0 f1 f2 f3 f4 : Field, (Tryz.prog.fieldsOf 25).toList = [f0, f1, f2, f3, f4] ∧ (f0.name ≠ "_" ∧ f0.type = 22 ∧ f0.offset = 0) ∧ (f1.name ≠ "_" ∧ f1.type = 23 ∧ f1.offset = 1) ∧ (f2.name ≠ "_" ∧ f2.type = 4 ∧ f2.offset = 33) ∧ (f3.name ≠ "_" ∧ f3.type = 22 ∧ f3.offset = 34) ∧ (f4.name ≠ "_" ∧ f4.type = 3 ∧ f4.offset = 35) := by
  unfold Program.fieldsOf
  rw [Tryz.underlying25]
  exact ⟨_, _, _, _, _, rfl, ⟨by decide, rfl, rfl⟩, ⟨by decide, rfl, rfl⟩, ⟨by decide, rfl, rfl⟩, ⟨by decide, rfl, rfl⟩, ⟨by decide, rfl, rfl⟩⟩
theorem hC_at (h : HV) (k : h.x.length = 32) : (hC h).toArray[0]? = some (.int .u64 h.pc) ∧ (hC h).toArray[33]? = some (.bool h.held) ∧ (hC h).toArray[34]? = some (.int .u64 h.addr) ∧ (hC h).toArray[35]? = some (.int .i64 h.size) := by
  have hx : (xV h.x).length = 32 := by rw [xV_len]; exact k
  unfold hC
  refine ⟨?_, ?_, ?_, ?_⟩ <;> rw [List.getElem?_toArray]
  · rfl
  · rw [List.getElem?_cons_succ, List.getElem?_append_right (by omega), hx]; rfl
  · rw [List.getElem?_cons_succ, List.getElem?_append_right (by omega), hx]; rfl
  · rw [List.getElem?_cons_succ, List.getElem?_append_right (by omega), hx]; rfl
theorem eq_hart (h k : HV) (l1 : h.x.length = 32) (l2 : k.x.length = 32) (w : World) : ∃ r : Bool, (binOp .eql 25 (.agg (hC h).toArray) (.agg (hC k).toArray)).run Tryz.prog w = .ok (.bool r) w ∧ (r = true ↔ h = k) := by
  obtain ⟨f0, f1, f2, f3, f4, he, ⟨n0, t0, o0⟩, ⟨n1, t1, o1⟩, ⟨n2, t2, o2⟩, ⟨n3, t3, o3⟩, ⟨n4, t4, o4⟩⟩ := fields_h
  obtain ⟨r, hr, hiff⟩ := arr_eq 9997 h.x k.x l1 l2 w
  obtain ⟨a0, a1, a2, a3⟩ := hC_at h l1
  obtain ⟨b0, b1, b2, b3⟩ := hC_at k l2
  have hu : Tryz.prog.underlying 25 = some (.struct (Tryz.prog.fieldsOf 25)) := by kernel_rfl
  have hp : Tryz.prog.stoodInHeld 25 = false := by kernel_rfl
  have e0 := run_equalIn_int (P := Tryz.prog) w 9998 22 .u64 .u64 h.pc k.pc Tryz.underlying22
  have e2 := run_equalIn_bool (P := Tryz.prog) w 9998 4 h.held k.held Tryz.underlying4
  have e3 := run_equalIn_int (P := Tryz.prog) w 9998 22 .u64 .u64 h.addr k.addr Tryz.underlying22
  have e4 := run_equalIn_int (P := Tryz.prog) w 9998 3 .i64 .i64 h.size k.size Tryz.underlying3
  refine ⟨h.pc == k.pc && (r && (h.held == k.held && (h.addr == k.addr && h.size == k.size))), ?_, ?_⟩
  · rw [run_eql_struct, run_equalIn_struct w 9999 _ _ _ hu hp, he]
    rw [eq_step n0 (by rw [t0, o0]; exact run_part_plain (P := Tryz.prog) w (e := 22) (by kernel_rfl) a0) (by rw [t0, o0]; exact run_part_plain (P := Tryz.prog) w (e := 22) (by kernel_rfl) b0) (by rw [t0]; exact e0)]
    rw [eq_step n1 (by rw [t1, o1]; exact part_x h l1 w) (by rw [t1, o1]; exact part_x k l2 w) (by rw [t1]; exact hr)]
    rw [eq_step n2 (by rw [t2, o2]; exact run_part_plain (P := Tryz.prog) w (e := 4) (by kernel_rfl) a1) (by rw [t2, o2]; exact run_part_plain (P := Tryz.prog) w (e := 4) (by kernel_rfl) b1) (by rw [t2]; exact e2)]
    rw [eq_step n3 (by rw [t3, o3]; exact run_part_plain (P := Tryz.prog) w (e := 22) (by kernel_rfl) a2) (by rw [t3, o3]; exact run_part_plain (P := Tryz.prog) w (e := 22) (by kernel_rfl) b2) (by rw [t3]; exact e3)]
    rw [eq_step n4 (by rw [t4, o4]; exact run_part_plain (P := Tryz.prog) w (e := 3) (by kernel_rfl) a3) (by rw [t4, o4]; exact run_part_plain (P := Tryz.prog) w (e := 3) (by kernel_rfl) b3) (by rw [t4]; exact e4)]
    cases (h.pc == k.pc) <;> cases r <;> cases (h.held == k.held) <;> cases (h.addr == k.addr) <;> cases (h.size == k.size) <;> simp [Op.eqFields]
  · obtain ⟨p1, x1, d1, a1, s1⟩ := h
    obtain ⟨p2, x2, d2, a2, s2⟩ := k
    simp only [Bool.and_eq_true, hiff, beq_iff_eq, HV.mk.injEq]
end Go.Proofs.YtmggichckhoomaaGreatDoor
