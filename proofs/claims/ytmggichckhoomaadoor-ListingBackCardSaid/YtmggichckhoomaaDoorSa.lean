/-
  Proved here: an instruction that comes in as an argument is seven plain values, and reads as such. No condition.
-/
import Derived.Test.YtmggichckhoomaaDoorLc
import Derived.Test.YtmggichckhoomaaDoorIe
import Derived.Lib.SmallJoins
namespace Go.Proofs.YtmggichckhoomaaDoor
open Go.ChangeShapes Go.WideShapes Go.ChangeAt Go.RowKit Go.Joins Go.Deep
set_option linter.unusedVariables false
section
variable {H : Type} {enc : TypeId × Value → H} {P : Program} {w : World} {base : Nat} {spare : Nat → Bool} {held : Bool}
theorem array7 {α : Type} {cs : Array α} (h : cs.size = 7) : ∃ c0 c1 c2 c3 c4 c5 c6, cs = #[c0, c1, c2, c3, c4, c5, c6] := by
  obtain ⟨l⟩ := cs
  match l, h with
  | [c0, c1, c2, c3, c4, c5, c6], _ => exact ⟨c0, c1, c2, c3, c4, c5, c6, rfl⟩
theorem open_agg7 {r : Reach} {b0 : Nat} {t : TypeId} {f0 f1 f2 f3 f4 f5 f6 : Field} {v : Value} {d : DataW H} {p : List MemPlace} (hs : P.underlying t = some (.struct #[f0, f1, f2, f3, f4, f5, f6])) (hone : oneCellFields P #[f0, f1, f2, f3, f4, f5, f6] = true) (hC : P.cellsOf t = 7)
    (hv : Value.okWide P w r b0 t v) (h : DataW.Trod enc P w base spare held t v d p) :
    ∃ (v0 v1 v2 v3 v4 v5 v6 : Value) (y0 y1 y2 y3 y4 y5 y6 : DataW H × List MemPlace) (n : Nat), v = .agg #[v0, v1, v2, v3, v4, v5, v6] ∧ d = .agg [y0.1, y1.1, y2.1, y3.1, y4.1, y5.1, y6.1] ∧ p = y0.2 ++ (y1.2 ++ (y2.2 ++ (y3.2 ++ (y4.2 ++ (y5.2 ++ y6.2))))) ∧
      DataW.trod enc P w base spare held n f0.type [v0] = some y0 ∧ DataW.trod enc P w base spare held n f1.type [v1] = some y1 ∧ DataW.trod enc P w base spare held n f2.type [v2] = some y2 ∧ DataW.trod enc P w base spare held n f3.type [v3] = some y3 ∧
      DataW.trod enc P w base spare held n f4.type [v4] = some y4 ∧ DataW.trod enc P w base spare held n f5.type [v5] = some y5 ∧ DataW.trod enc P w base spare held n f6.type [v6] = some y6 := by
  obtain ⟨cs, rfl, hsz⟩ := okWide_struct hs hv
  obtain ⟨c0, c1, c2, c3, c4, c5, c6, rfl⟩ := array7 (hsz.trans hC)
  obtain ⟨fuel, hf⟩ := h
  obtain ⟨xs, n, _, hx, hl, hlen, hh⟩ := DataW.trod_struct hs hf
  match xs, hlen with
  | [y0, y1, y2, y3, y4, y5, y6], _ =>
    obtain ⟨o0, k0⟩ := hone_of hone 0 f0 rfl
    obtain ⟨o1, k1⟩ := hone_of hone 1 f1 rfl
    obtain ⟨o2, k2⟩ := hone_of hone 2 f2 rfl
    obtain ⟨o3, k3⟩ := hone_of hone 3 f3 rfl
    obtain ⟨o4, k4⟩ := hone_of hone 4 f4 rfl
    obtain ⟨o5, k5⟩ := hone_of hone 5 f5 rfl
    obtain ⟨o6, k6⟩ := hone_of hone 6 f6 rfl
    have h0 := hh 0 f0 rfl
    have h1 := hh 1 f1 rfl
    have h2 := hh 2 f2 rfl
    have h3 := hh 3 f3 rfl
    have h4 := hh 4 f4 rfl
    have h5 := hh 5 f5 rfl
    have h6 := hh 6 f6 rfl
    simp only [Prod.mk.injEq] at hx
    refine ⟨c0, c1, c2, c3, c4, c5, c6, y0, y1, y2, y3, y4, y5, y6, n, rfl, by simpa using hx.1, by simpa using hx.2, ?_, ?_, ?_, ?_, ?_, ?_, ?_⟩
    · simpa [Value.cells, o0, k0] using h0
    · simpa [Value.cells, o1, k1] using h1
    · simpa [Value.cells, o2, k2] using h2
    · simpa [Value.cells, o3, k3] using h3
    · simpa [Value.cells, o4, k4] using h4
    · simpa [Value.cells, o5, k5] using h5
    · simpa [Value.cells, o6, k6] using h6
theorem shut_agg7 {t : TypeId} {f0 f1 f2 f3 f4 f5 f6 : Field} {v0 v1 v2 v3 v4 v5 v6 : Value} {y0 y1 y2 y3 y4 y5 y6 : DataW H × List MemPlace} {n : Nat} (hs : P.underlying t = some (.struct #[f0, f1, f2, f3, f4, f5, f6])) (hone : oneCellFields P #[f0, f1, f2, f3, f4, f5, f6] = true) (hC : P.cellsOf t = 7)
    (h0 : DataW.trod enc P w base spare held n f0.type [v0] = some y0) (h1 : DataW.trod enc P w base spare held n f1.type [v1] = some y1) (h2 : DataW.trod enc P w base spare held n f2.type [v2] = some y2) (h3 : DataW.trod enc P w base spare held n f3.type [v3] = some y3)
    (h4 : DataW.trod enc P w base spare held n f4.type [v4] = some y4) (h5 : DataW.trod enc P w base spare held n f5.type [v5] = some y5) (h6 : DataW.trod enc P w base spare held n f6.type [v6] = some y6) :
    DataW.Trod enc P w base spare held t (.agg #[v0, v1, v2, v3, v4, v5, v6]) (.agg [y0.1, y1.1, y2.1, y3.1, y4.1, y5.1, y6.1]) (y0.2 ++ (y1.2 ++ (y2.2 ++ (y3.2 ++ (y4.2 ++ (y5.2 ++ y6.2)))))) := by
  obtain ⟨o0, k0⟩ := hone_of hone 0 f0 rfl
  obtain ⟨o1, k1⟩ := hone_of hone 1 f1 rfl
  obtain ⟨o2, k2⟩ := hone_of hone 2 f2 rfl
  obtain ⟨o3, k3⟩ := hone_of hone 3 f3 rfl
  obtain ⟨o4, k4⟩ := hone_of hone 4 f4 rfl
  obtain ⟨o5, k5⟩ := hone_of hone 5 f5 rfl
  obtain ⟨o6, k6⟩ := hone_of hone 6 f6 rfl
  have := trod_struct_mk (enc := enc) (w := w) (base := base) (spare := spare) (held := held) (n := n) (cs := [v0, v1, v2, v3, v4, v5, v6]) (xs := [y0, y1, y2, y3, y4, y5, y6]) hs (by simp [hC]) (by simp [h0, h1, h2, h3, h4, h5, h6, o0, o1, o2, o3, o4, o5, o6, k0, k1, k2, k3, k4, k5, k6])
  exact ⟨_, by simpa [Value.cells] using this⟩
end
section
variable {H : Type} {enc : TypeId × Value → H} {w : World} {base : Nat} {spare : Nat → Bool} {held : Bool}
/-- An instruction as a value, and as a datum. -/
def instV (op rd rs1 rs2 im : Int) (aq rl : Bool) : Value := .agg #[.int .i64 op, .int .i64 rd, .int .i64 rs1, .int .i64 rs2, .int .i64 im, .bool aq, .bool rl]
def instD {H : Type} (op rd rs1 rs2 im : Int) (aq rl : Bool) : DataW H := .agg [.lit (.int .i64 op), .lit (.int .i64 rd), .lit (.int .i64 rs1), .lit (.int .i64 rs2), .lit (.int .i64 im), .lit (.bool aq), .lit (.bool rl)]
def InI (x : Int) : Prop := -9223372036854775808 ≤ x ∧ x < 9223372036854775808
theorem int_in {fuel : Nat} {v : Value} {y : DataW H × List MemPlace} (h : DataW.trod enc Tryd.prog w base spare held fuel 3 [v] = some y) : ∃ x, v = .int .i64 x ∧ y = (.lit (.int .i64 x), []) ∧ (Lit.int .i64 x).wf = true := by
  obtain ⟨a, e0, rfl, wa⟩ := DataW.trod_int Tryd.underlying3 h
  simp at e0
  exact ⟨a, e0, rfl, wa⟩
theorem bool_in {fuel : Nat} {v : Value} {y : DataW H × List MemPlace} (h : DataW.trod enc Tryd.prog w base spare held fuel 4 [v] = some y) : ∃ x, v = .bool x ∧ y = (.lit (.bool x), []) := by
  obtain ⟨a, e0, rfl⟩ := DataW.trod_bool Tryd.underlying4 h
  simp at e0
  exact ⟨a, e0, rfl⟩
set_option maxRecDepth 100000 in
theorem cells23 : Tryd.prog.cellsOf 33 = 7 := by kernel_rfl
set_option maxRecDepth 100000 in
theorem open_inst {r : Reach} {b0 : Nat} {v : Value} {d : DataW H} {p : List MemPlace} (hv : Value.okWide Tryd.prog w r b0 33 v) (h : DataW.Trod enc Tryd.prog w base spare held 33 v d p) :
    ∃ op rd rs1 rs2 im aq rl, v = instV op rd rs1 rs2 im aq rl ∧ d = instD op rd rs1 rs2 im aq rl ∧ p = [] ∧ (Lit.int .i64 op).wf = true ∧ (Lit.int .i64 rd).wf = true ∧ (Lit.int .i64 rs1).wf = true ∧ (Lit.int .i64 rs2).wf = true ∧ (Lit.int .i64 im).wf = true := by
  obtain ⟨c0, c1, c2, c3, c4, c5, c6, y0, y1, y2, y3, y4, y5, y6, m, rfl, rfl, rfl, h0, h1, h2, h3, h4, h5, h6⟩ := open_agg7 Tryd.underlying33 (by kernel_rfl) cells23 hv h
  obtain ⟨x0, rfl, rfl, w0⟩ := int_in h0
  obtain ⟨x1, rfl, rfl, w1⟩ := int_in h1
  obtain ⟨x2, rfl, rfl, w2⟩ := int_in h2
  obtain ⟨x3, rfl, rfl, w3⟩ := int_in h3
  obtain ⟨x4, rfl, rfl, w4⟩ := int_in h4
  obtain ⟨x5, rfl, rfl⟩ := bool_in h5
  obtain ⟨x6, rfl, rfl⟩ := bool_in h6
  exact ⟨x0, x1, x2, x3, x4, x5, x6, rfl, rfl, rfl, w0, w1, w2, w3, w4⟩
set_option maxRecDepth 100000 in
theorem shut_inst {op rd rs1 rs2 im : Int} {aq rl : Bool} (w0 : (Lit.int .i64 op).wf = true) (w1 : (Lit.int .i64 rd).wf = true) (w2 : (Lit.int .i64 rs1).wf = true) (w3 : (Lit.int .i64 rs2).wf = true) (w4 : (Lit.int .i64 im).wf = true) :
    DataW.Trod enc Tryd.prog w base spare held 33 (instV op rd rs1 rs2 im aq rl) (instD op rd rs1 rs2 im aq rl) [] :=
  shut_agg7 (n := 1) (y0 := (.lit (.int .i64 op), [])) (y1 := (.lit (.int .i64 rd), [])) (y2 := (.lit (.int .i64 rs1), [])) (y3 := (.lit (.int .i64 rs2), [])) (y4 := (.lit (.int .i64 im), [])) (y5 := (.lit (.bool aq), [])) (y6 := (.lit (.bool rl), []))
    Tryd.underlying33 (by kernel_rfl) cells23 (trod_int_mk 0 Tryd.underlying3 w0) (trod_int_mk 0 Tryd.underlying3 w1) (trod_int_mk 0 Tryd.underlying3 w2) (trod_int_mk 0 Tryd.underlying3 w3) (trod_int_mk 0 Tryd.underlying3 w4)
    (by simp [DataW.trod, Tryd.underlying4]) (by simp [DataW.trod, Tryd.underlying4])
end
end Go.Proofs.YtmggichckhoomaaDoor
