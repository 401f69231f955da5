/-
  Proved here: which instructions may be, by the code. Conditions: the table of codes holds what its text lays; the numbers are ints.
-/
import Derived.Test.YtnooabgdcfegeaaDoorSaj
import Derived.Test.YtnooabgdcfegeaaDoorSak
import Derived.Lib.QuietBelow
namespace Go.Proofs.YtnooabgdcfegeaaDoor
open Go.RowKit Go.Sort
set_option linter.unusedVariables false

theorem field_0 (a b c d : Int) (W : World) : (Instr.field 106 (.agg #[.int .u32 a, .int .u64 b, .int .u64 c, .int .u64 d]) 0).run Tryd.prog W = .ok (.int .u32 a) W := by kernel_rfl
/-- Are two instructions the same? -/
def EqI (op rd rs1 rs2 im : Int) (aq rl : Bool) (op' rd' rs1' rs2' im' : Int) (aq' rl' : Bool) : Bool := (op == op') && ((rd == rd') && ((rs1 == rs1') && ((rs2 == rs2') && ((im == im') && ((aq == aq') && (rl == rl'))))))
set_option maxHeartbeats 1000000 in
theorem eq7 (op rd rs1 rs2 im : Int) (aq rl : Bool) (op' rd' rs1' rs2' im' : Int) (aq' rl' : Bool) (W : World) :
    (binOp .eql 37 (.agg #[.int .i64 op, .int .i64 rd, .int .i64 rs1, .int .i64 rs2, .int .i64 im, .bool aq, .bool rl]) (.agg #[.int .i64 op', .int .i64 rd', .int .i64 rs1', .int .i64 rs2', .int .i64 im', .bool aq', .bool rl'])).run Tryd.prog W = .ok (.bool (EqI op rd rs1 rs2 im aq rl op' rd' rs1' rs2' im' aq' rl')) W := by
  rw [run_eql_struct, run_equalIn_agg W 9999 37 _ _ (by kernel_rfl) (by kernel_rfl)]
  simp [go_sem, Tryd.underlying37, Tryd.underlying3, Tryd.underlying4]
  unfold EqI
  repeat' split
  all_goals simp_all
attribute [local go_sem ↓] eq7
/-- Has an instruction its form's fields alone? -/
def SameB (f op rd rs1 rs2 im : Int) (aq rl : Bool) : Bool := EqI op rd rs1 rs2 im aq rl op (oi (rdT f) rd) (oi (rs1T f) rs1) (oi (rs2T f) rs2) (oi (immT f) im) (ob (ordT f) aq) (ob (ordT f) rl)
/-- Of what was there nothing has turned. -/
def Nb (w w' : World) : Prop := Below w.heap.size w w'
theorem Nw.b {a b : World} (h : Nw a b) : Nb a b := h.1
theorem Nb.refl (w : World) : Nb w w := Below.refl _ _
theorem Nb.trans {a b c : World} (h : Nb a b) (k : Nb b c) : Nb a c := Below.trans h (Below.mono k (Below.size h))
theorem Nb.alloc {a b : World} (h : Nb a b) (o : Obj) : Nb a (b.alloc o) := Below.alloc h (Below.size h) o
theorem Nb.size {a b : World} (h : Nb a b) : a.heap.size ≤ b.heap.size := Below.size h
theorem Nb.block {a b : World} (h : Nb a b) {n : Nat} {o : Obj} (k : a.heap[n]? = some o) : b.heap[n]? = some o := (Below.block h n (lt_of_block k)).trans k
theorem Nb.cell {a b : World} (h : Nb a b) {p : Addr} {v : Value} (k : a.cell? p = some v) : b.cell? p = some v := (Below.cell h (block_lt_of_cell k)).trans k
theorem Cod.of_nb {a b : World} (h : Cod a) (k : Nb a b) : Cod b := ⟨Nat.lt_of_lt_of_le h.1 k.size, fun i hi => k.cell (h.2 i hi)⟩
theorem regrown_nw {P : Program} {f : FuncId} {args : Array Value} {w : World} {d : Nat} {os : Array Obj} {v : Value}
    (h : Calls P f args (grow (redrawn w d) os) fun e w' => e = .returned v ∧ Nw (grow (redrawn w d) os) w') : Calls P f args (grow (redrawn w d) os) fun e w'' => e = .returned v ∧ ∃ p : Regrown, w'' = grow (redrawn w p.d) p.os :=
  Calls.regrown_of (h.mono fun _ _ ⟨he, hn⟩ => ⟨he, hn.1⟩)
theorem regrown_same {P : Program} {f : FuncId} {args : Array Value} {w : World} {d : Nat} {os : Array Obj} {v : Value}
    (h : Calls P f args (grow (redrawn w d) os) fun e w' => e = .returned v ∧ grow (redrawn w d) os = w') : Calls P f args (grow (redrawn w d) os) fun e w'' => e = .returned v ∧ ∃ p : Regrown, w'' = grow (redrawn w p.d) p.os :=
  Calls.regrown_of (h.mono fun _ _ ⟨he, hn⟩ => ⟨he, hn ▸ Below.refl _ _⟩)
set_option maxRecDepth 100000 in
set_option maxHeartbeats 4000000 in
theorem good_e0
    (op rd rs1 rs2 im : Int) (aq rl : Bool) (v0 : -9223372036854775808 ≤ im) (v1 : im < 9223372036854775808) (w : World) (hC : Cod w) (f : Int) (hf : Hid ((refRow op).1 = f)) (f1 : 1 ≤ f) (f2 : f ≤ 12)
    (hE : EqI op rd rs1 rs2 im aq rl op (oi (rdT f) rd) (oi (rs1T f) rs1) (oi (rs2T f) rs2) (oi (immT f) im) (ob (ordT f) aq) (ob (ordT f) rl) = false) :
    Calls Tryd.prog 59 #[.agg #[.int .i64 op, .int .i64 rd, .int .i64 rs1, .int .i64 rs2, .int .i64 im, .bool aq, .bool rl]] w fun e w' => e = .returned (.bool false) ∧ Nb w w' := by
  have f0 : 0 ≤ f := by omega
  go_enter Tryd.func59, Tryd.ntmps59
  go_wp2_with fail
  obtain ⟨W1, hW⟩ : ∃ W1, w.alloc (.cells #[.int .i64 op, .int .i64 rd, .int .i64 rs1, .int .i64 rs2, .int .i64 im, .bool aq, .bool rl] 37) = W1 := ⟨_, rfl⟩
  have hS := made7 w _ _ _ _ _ _ _ 37 hW rfl
  have hC1 : Cod W1 := hC.of_nw hS.1
  rw [hW]
  clear hW hC
  refine (head_any op W1 hC1).mono ?_
  rintro e w2 ⟨rfl, hn⟩
  rw [hf.out]
  obtain ⟨n1, n2, c0, c1, c2, c3, c4, c5, c6⟩ := keep7 hn hS
  clear hS hn hC1
  have hfd := field_0 (1048576 * f) (refRow op).2.1 (refRow op).2.2.1 (refRow op).2.2.2
  have g1 : (1048576 * f != 0) = true := by rw [bne_iff_ne]; omega
  go_wp2_with fail
  have d0 := cell_regrown c0
  have d1 := cell_regrown c1
  have d2 := cell_regrown c2
  have d3 := cell_regrown c3
  have d4 := cell_regrown c4
  have d5 := cell_regrown c5
  have d6 := cell_regrown c6
  clear c0 c1 c2 c3 c4 c5 c6
  refine wp_region_quiet_below (by kernel_rfl) (by kernel_rfl) ?_
  repeat (quiet_step ((first | (go_at_call 76; exact regrown_nw (only_any f op rd rs1 rs2 im aq rl f0 f2 _)) | (go_at_call 77; exact regrown_same (reg_any _ _)) | (go_at_call 78; exact regrown_same (may_any f f0 f2 im v0 v1 _)))))
  refine wpQuiet_nil ?_
  intro _ hw'
  obtain ⟨⟨dq, osq⟩, hw''⟩ := hw'
  subst hw''
  go_wp2_with fail
  go_ret
  exact ⟨rfl, n1.b.trans (below_regrown w2 dq osq)⟩
set_option maxRecDepth 100000 in
set_option maxHeartbeats 4000000 in
theorem good_e1
    (op rd rs1 rs2 im : Int) (aq rl : Bool) (v0 : -9223372036854775808 ≤ im) (v1 : im < 9223372036854775808) (w : World) (hC : Cod w) (f : Int) (hf : Hid ((refRow op).1 = f)) (f1 : 1 ≤ f) (f2 : f ≤ 12)
    (hE : EqI op rd rs1 rs2 im aq rl op (oi (rdT f) rd) (oi (rs1T f) rs1) (oi (rs2T f) rs2) (oi (immT f) im) (ob (ordT f) aq) (ob (ordT f) rl) = true) (h1 : RegB rd = false) :
    Calls Tryd.prog 59 #[.agg #[.int .i64 op, .int .i64 rd, .int .i64 rs1, .int .i64 rs2, .int .i64 im, .bool aq, .bool rl]] w fun e w' => e = .returned (.bool false) ∧ Nb w w' := by
  have f0 : 0 ≤ f := by omega
  go_enter Tryd.func59, Tryd.ntmps59
  go_wp2_with fail
  obtain ⟨W1, hW⟩ : ∃ W1, w.alloc (.cells #[.int .i64 op, .int .i64 rd, .int .i64 rs1, .int .i64 rs2, .int .i64 im, .bool aq, .bool rl] 37) = W1 := ⟨_, rfl⟩
  have hS := made7 w _ _ _ _ _ _ _ 37 hW rfl
  have hC1 : Cod W1 := hC.of_nw hS.1
  rw [hW]
  clear hW hC
  refine (head_any op W1 hC1).mono ?_
  rintro e w2 ⟨rfl, hn⟩
  rw [hf.out]
  obtain ⟨n1, n2, c0, c1, c2, c3, c4, c5, c6⟩ := keep7 hn hS
  clear hS hn hC1
  have hfd := field_0 (1048576 * f) (refRow op).2.1 (refRow op).2.2.1 (refRow op).2.2.2
  have g1 : (1048576 * f != 0) = true := by rw [bne_iff_ne]; omega
  go_wp2_with fail
  have d0 := cell_regrown c0
  have d1 := cell_regrown c1
  have d2 := cell_regrown c2
  have d3 := cell_regrown c3
  have d4 := cell_regrown c4
  have d5 := cell_regrown c5
  have d6 := cell_regrown c6
  clear c0 c1 c2 c3 c4 c5 c6
  refine wp_region_quiet_below (by kernel_rfl) (by kernel_rfl) ?_
  repeat (quiet_step ((first | (go_at_call 76; exact regrown_nw (only_any f op rd rs1 rs2 im aq rl f0 f2 _)) | (go_at_call 77; exact regrown_same (reg_any _ _)) | (go_at_call 78; exact regrown_same (may_any f f0 f2 im v0 v1 _)))))
  refine wpQuiet_nil ?_
  intro _ hw'
  obtain ⟨⟨dq, osq⟩, hw''⟩ := hw'
  subst hw''
  go_wp2_with fail
  go_ret
  exact ⟨rfl, n1.b.trans (below_regrown w2 dq osq)⟩
set_option maxRecDepth 100000 in
set_option maxHeartbeats 4000000 in
theorem good_e2
    (op rd rs1 rs2 im : Int) (aq rl : Bool) (v0 : -9223372036854775808 ≤ im) (v1 : im < 9223372036854775808) (w : World) (hC : Cod w) (f : Int) (hf : Hid ((refRow op).1 = f)) (f1 : 1 ≤ f) (f2 : f ≤ 12)
    (hE : EqI op rd rs1 rs2 im aq rl op (oi (rdT f) rd) (oi (rs1T f) rs1) (oi (rs2T f) rs2) (oi (immT f) im) (ob (ordT f) aq) (ob (ordT f) rl) = true) (h1 : RegB rd = true) (h2 : RegB rs1 = false) :
    Calls Tryd.prog 59 #[.agg #[.int .i64 op, .int .i64 rd, .int .i64 rs1, .int .i64 rs2, .int .i64 im, .bool aq, .bool rl]] w fun e w' => e = .returned (.bool false) ∧ Nb w w' := by
  have f0 : 0 ≤ f := by omega
  go_enter Tryd.func59, Tryd.ntmps59
  go_wp2_with fail
  obtain ⟨W1, hW⟩ : ∃ W1, w.alloc (.cells #[.int .i64 op, .int .i64 rd, .int .i64 rs1, .int .i64 rs2, .int .i64 im, .bool aq, .bool rl] 37) = W1 := ⟨_, rfl⟩
  have hS := made7 w _ _ _ _ _ _ _ 37 hW rfl
  have hC1 : Cod W1 := hC.of_nw hS.1
  rw [hW]
  clear hW hC
  refine (head_any op W1 hC1).mono ?_
  rintro e w2 ⟨rfl, hn⟩
  rw [hf.out]
  obtain ⟨n1, n2, c0, c1, c2, c3, c4, c5, c6⟩ := keep7 hn hS
  clear hS hn hC1
  have hfd := field_0 (1048576 * f) (refRow op).2.1 (refRow op).2.2.1 (refRow op).2.2.2
  have g1 : (1048576 * f != 0) = true := by rw [bne_iff_ne]; omega
  go_wp2_with fail
  have d0 := cell_regrown c0
  have d1 := cell_regrown c1
  have d2 := cell_regrown c2
  have d3 := cell_regrown c3
  have d4 := cell_regrown c4
  have d5 := cell_regrown c5
  have d6 := cell_regrown c6
  clear c0 c1 c2 c3 c4 c5 c6
  refine wp_region_quiet_below (by kernel_rfl) (by kernel_rfl) ?_
  repeat (quiet_step ((first | (go_at_call 76; exact regrown_nw (only_any f op rd rs1 rs2 im aq rl f0 f2 _)) | (go_at_call 77; exact regrown_same (reg_any _ _)) | (go_at_call 78; exact regrown_same (may_any f f0 f2 im v0 v1 _)))))
  refine wpQuiet_nil ?_
  intro _ hw'
  obtain ⟨⟨dq, osq⟩, hw''⟩ := hw'
  subst hw''
  go_wp2_with fail
  go_ret
  exact ⟨rfl, n1.b.trans (below_regrown w2 dq osq)⟩
set_option maxRecDepth 100000 in
set_option maxHeartbeats 4000000 in
theorem good_e3
    (op rd rs1 rs2 im : Int) (aq rl : Bool) (v0 : -9223372036854775808 ≤ im) (v1 : im < 9223372036854775808) (w : World) (hC : Cod w) (f : Int) (hf : Hid ((refRow op).1 = f)) (f1 : 1 ≤ f) (f2 : f ≤ 12)
    (hE : EqI op rd rs1 rs2 im aq rl op (oi (rdT f) rd) (oi (rs1T f) rs1) (oi (rs2T f) rs2) (oi (immT f) im) (ob (ordT f) aq) (ob (ordT f) rl) = true) (h1 : RegB rd = true) (h2 : RegB rs1 = true) (h3 : RegB rs2 = false) :
    Calls Tryd.prog 59 #[.agg #[.int .i64 op, .int .i64 rd, .int .i64 rs1, .int .i64 rs2, .int .i64 im, .bool aq, .bool rl]] w fun e w' => e = .returned (.bool false) ∧ Nb w w' := by
  have f0 : 0 ≤ f := by omega
  go_enter Tryd.func59, Tryd.ntmps59
  go_wp2_with fail
  obtain ⟨W1, hW⟩ : ∃ W1, w.alloc (.cells #[.int .i64 op, .int .i64 rd, .int .i64 rs1, .int .i64 rs2, .int .i64 im, .bool aq, .bool rl] 37) = W1 := ⟨_, rfl⟩
  have hS := made7 w _ _ _ _ _ _ _ 37 hW rfl
  have hC1 : Cod W1 := hC.of_nw hS.1
  rw [hW]
  clear hW hC
  refine (head_any op W1 hC1).mono ?_
  rintro e w2 ⟨rfl, hn⟩
  rw [hf.out]
  obtain ⟨n1, n2, c0, c1, c2, c3, c4, c5, c6⟩ := keep7 hn hS
  clear hS hn hC1
  have hfd := field_0 (1048576 * f) (refRow op).2.1 (refRow op).2.2.1 (refRow op).2.2.2
  have g1 : (1048576 * f != 0) = true := by rw [bne_iff_ne]; omega
  go_wp2_with fail
  have d0 := cell_regrown c0
  have d1 := cell_regrown c1
  have d2 := cell_regrown c2
  have d3 := cell_regrown c3
  have d4 := cell_regrown c4
  have d5 := cell_regrown c5
  have d6 := cell_regrown c6
  clear c0 c1 c2 c3 c4 c5 c6
  refine wp_region_quiet_below (by kernel_rfl) (by kernel_rfl) ?_
  repeat (quiet_step ((first | (go_at_call 76; exact regrown_nw (only_any f op rd rs1 rs2 im aq rl f0 f2 _)) | (go_at_call 77; exact regrown_same (reg_any _ _)) | (go_at_call 78; exact regrown_same (may_any f f0 f2 im v0 v1 _)))))
  refine wpQuiet_nil ?_
  intro _ hw'
  obtain ⟨⟨dq, osq⟩, hw''⟩ := hw'
  subst hw''
  go_wp2_with fail
  go_ret
  exact ⟨rfl, n1.b.trans (below_regrown w2 dq osq)⟩
set_option maxRecDepth 100000 in
set_option maxHeartbeats 4000000 in
theorem good_e4
    (op rd rs1 rs2 im : Int) (aq rl : Bool) (v0 : -9223372036854775808 ≤ im) (v1 : im < 9223372036854775808) (w : World) (hC : Cod w) (f : Int) (hf : Hid ((refRow op).1 = f)) (f1 : 1 ≤ f) (f2 : f ≤ 12)
    (hE : EqI op rd rs1 rs2 im aq rl op (oi (rdT f) rd) (oi (rs1T f) rs1) (oi (rs2T f) rs2) (oi (immT f) im) (ob (ordT f) aq) (ob (ordT f) rl) = true) (h1 : RegB rd = true) (h2 : RegB rs1 = true) (h3 : RegB rs2 = true) (h4 : MayB f im = false) :
    Calls Tryd.prog 59 #[.agg #[.int .i64 op, .int .i64 rd, .int .i64 rs1, .int .i64 rs2, .int .i64 im, .bool aq, .bool rl]] w fun e w' => e = .returned (.bool false) ∧ Nb w w' := by
  have f0 : 0 ≤ f := by omega
  go_enter Tryd.func59, Tryd.ntmps59
  go_wp2_with fail
  obtain ⟨W1, hW⟩ : ∃ W1, w.alloc (.cells #[.int .i64 op, .int .i64 rd, .int .i64 rs1, .int .i64 rs2, .int .i64 im, .bool aq, .bool rl] 37) = W1 := ⟨_, rfl⟩
  have hS := made7 w _ _ _ _ _ _ _ 37 hW rfl
  have hC1 : Cod W1 := hC.of_nw hS.1
  rw [hW]
  clear hW hC
  refine (head_any op W1 hC1).mono ?_
  rintro e w2 ⟨rfl, hn⟩
  rw [hf.out]
  obtain ⟨n1, n2, c0, c1, c2, c3, c4, c5, c6⟩ := keep7 hn hS
  clear hS hn hC1
  have hfd := field_0 (1048576 * f) (refRow op).2.1 (refRow op).2.2.1 (refRow op).2.2.2
  have g1 : (1048576 * f != 0) = true := by rw [bne_iff_ne]; omega
  go_wp2_with fail
  have d0 := cell_regrown c0
  have d1 := cell_regrown c1
  have d2 := cell_regrown c2
  have d3 := cell_regrown c3
  have d4 := cell_regrown c4
  have d5 := cell_regrown c5
  have d6 := cell_regrown c6
  clear c0 c1 c2 c3 c4 c5 c6
  refine wp_region_quiet_below (by kernel_rfl) (by kernel_rfl) ?_
  repeat (quiet_step ((first | (go_at_call 76; exact regrown_nw (only_any f op rd rs1 rs2 im aq rl f0 f2 _)) | (go_at_call 77; exact regrown_same (reg_any _ _)) | (go_at_call 78; exact regrown_same (may_any f f0 f2 im v0 v1 _)))))
  refine wpQuiet_nil ?_
  intro _ hw'
  obtain ⟨⟨dq, osq⟩, hw''⟩ := hw'
  subst hw''
  go_wp2_with fail
  go_ret
  exact ⟨rfl, n1.b.trans (below_regrown w2 dq osq)⟩
set_option maxRecDepth 100000 in
set_option maxHeartbeats 4000000 in
theorem good_e5
    (op rd rs1 rs2 im : Int) (aq rl : Bool) (v0 : -9223372036854775808 ≤ im) (v1 : im < 9223372036854775808) (w : World) (hC : Cod w) (f : Int) (hf : Hid ((refRow op).1 = f)) (f1 : 1 ≤ f) (f2 : f ≤ 12)
    (hE : EqI op rd rs1 rs2 im aq rl op (oi (rdT f) rd) (oi (rs1T f) rs1) (oi (rs2T f) rs2) (oi (immT f) im) (ob (ordT f) aq) (ob (ordT f) rl) = true) (h1 : RegB rd = true) (h2 : RegB rs1 = true) (h3 : RegB rs2 = true) (h4 : MayB f im = true) :
    Calls Tryd.prog 59 #[.agg #[.int .i64 op, .int .i64 rd, .int .i64 rs1, .int .i64 rs2, .int .i64 im, .bool aq, .bool rl]] w fun e w' => e = .returned (.bool true) ∧ Nb w w' := by
  have f0 : 0 ≤ f := by omega
  go_enter Tryd.func59, Tryd.ntmps59
  go_wp2_with fail
  obtain ⟨W1, hW⟩ : ∃ W1, w.alloc (.cells #[.int .i64 op, .int .i64 rd, .int .i64 rs1, .int .i64 rs2, .int .i64 im, .bool aq, .bool rl] 37) = W1 := ⟨_, rfl⟩
  have hS := made7 w _ _ _ _ _ _ _ 37 hW rfl
  have hC1 : Cod W1 := hC.of_nw hS.1
  rw [hW]
  clear hW hC
  refine (head_any op W1 hC1).mono ?_
  rintro e w2 ⟨rfl, hn⟩
  rw [hf.out]
  obtain ⟨n1, n2, c0, c1, c2, c3, c4, c5, c6⟩ := keep7 hn hS
  clear hS hn hC1
  have hfd := field_0 (1048576 * f) (refRow op).2.1 (refRow op).2.2.1 (refRow op).2.2.2
  have g1 : (1048576 * f != 0) = true := by rw [bne_iff_ne]; omega
  go_wp2_with fail
  have d0 := cell_regrown c0
  have d1 := cell_regrown c1
  have d2 := cell_regrown c2
  have d3 := cell_regrown c3
  have d4 := cell_regrown c4
  have d5 := cell_regrown c5
  have d6 := cell_regrown c6
  clear c0 c1 c2 c3 c4 c5 c6
  refine wp_region_quiet_below (by kernel_rfl) (by kernel_rfl) ?_
  repeat (quiet_step ((first | (go_at_call 76; exact regrown_nw (only_any f op rd rs1 rs2 im aq rl f0 f2 _)) | (go_at_call 77; exact regrown_same (reg_any _ _)) | (go_at_call 78; exact regrown_same (may_any f f0 f2 im v0 v1 _)))))
  refine wpQuiet_nil ?_
  intro _ hw'
  obtain ⟨⟨dq, osq⟩, hw''⟩ := hw'
  subst hw''
  go_wp2_with fail
  go_ret
  exact ⟨rfl, n1.b.trans (below_regrown w2 dq osq)⟩
end Go.Proofs.YtnooabgdcfegeaaDoor
