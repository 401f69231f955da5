/-
  Proved here: of the reference: Same; two words are held against each other. Conditions: the slices hold the words.
-/
import Derived.Test.YticifolljhplmaaKn
import Derived.Deep.QuietTactic
import Derived.BigQuiet
namespace Go.Proofs.Yticifolljhplmaa
open Go.ChangeShapes Go.WideShapes Go.ChangeAt Go.RowKit
set_option linter.unusedVariables false
set_option linter.unusedSimpArgs false
set_option maxRecDepth 100000
set_option maxHeartbeats 2000000
abbrev tkV (t : Tk) : Array Value := tkC t.1 t.2.1 t.2.2.1 t.2.2.2
theorem bytes_eq (a b : Bs) : ((⟨a.toArray⟩ : ByteArray).toList == (⟨b.toArray⟩ : ByteArray).toList) = decide (a = b) := by
  rw [ByteArray.toList_eq, ByteArray.toList_eq, Bool.eq_iff_iff]
  simp
theorem eq_tok (t u : Tk) (w : World) : (Op.equalIn 10000 47 (.agg (tkV t)) (.agg (tkV u))).run Try.prog w = .ok (decide (t = u)) w := by
  have hp : Try.prog.stoodInHeld 47 = false := by kernel_rfl
  have hu : Try.prog.underlying 47 = some (.struct (Try.prog.fieldsOf 47)) := by kernel_rfl
  have hf : ∃ f0 f1 f2 f3 : Field, (Try.prog.fieldsOf 47).toList = [f0, f1, f2, f3] ∧ (f0.name ≠ "_" ∧ f0.type = 3 ∧ f0.offset = 0) ∧ (f1.name ≠ "_" ∧ f1.type = 3 ∧ f1.offset = 1) ∧ (f2.name ≠ "_" ∧ f2.type = 9 ∧ f2.offset = 2) ∧ (f3.name ≠ "_" ∧ f3.type = 3 ∧ f3.offset = 3) := by
    unfold Program.fieldsOf
    rw [Try.underlying47]
    exact ⟨_, _, _, _, rfl, ⟨by decide, rfl, rfl⟩, ⟨by decide, rfl, rfl⟩, ⟨by decide, rfl, rfl⟩, ⟨by decide, rfl, rfl⟩⟩
  obtain ⟨f0, f1, f2, f3, he, ⟨n0, t0, o0⟩, ⟨n1, t1, o1⟩, ⟨n2, t2, o2⟩, ⟨n3, t3, o3⟩⟩ := hf
  have e0 := run_equalIn_int (P := Try.prog) w 9998 3 .i64 .i64 t.1 u.1 Try.underlying3
  have e1 := run_equalIn_int (P := Try.prog) w 9998 3 .i64 .i64 t.2.1 u.2.1 Try.underlying3
  have e2 := run_equalIn_string (P := Try.prog) w 9998 9 ⟨t.2.2.1.toArray⟩ ⟨u.2.2.1.toArray⟩ Try.underlying9
  have e3 := run_equalIn_int (P := Try.prog) w 9998 3 .i64 .i64 t.2.2.2 u.2.2.2 Try.underlying3
  rw [run_equalIn_struct w 9999 _ _ _ hu hp, he]
  have tk_step : ∀ {f : Field} {fs : List Field} {a b : Value} {r : Bool}, f.name ≠ "_" → (part f.type (tkV t) f.offset).run Try.prog w = .ok a w → (part f.type (tkV u) f.offset).run Try.prog w = .ok b w → (Op.equalIn 9999 f.type a b).run Try.prog w = .ok r w →
      (Op.eqFields 9999 (tkV t) (tkV u) (f :: fs)).run Try.prog w = if r = true then (Op.eqFields 9999 (tkV t) (tkV u) fs).run Try.prog w else .ok false w := by
    intro f fs a b r hn p1 p2 p3
    simp only [Op.eqFields, if_pos hn, Sem.run_bind, p1, p2, p3, Result.andThen_ok]
    cases r <;> simp
  rw [tk_step n0 (by rw [t0, o0]; exact run_part_plain (P := Try.prog) w (e := 3) (by kernel_rfl) rfl) (by rw [t0, o0]; exact run_part_plain (P := Try.prog) w (e := 3) (by kernel_rfl) rfl) (by rw [t0]; exact e0)]
  rw [tk_step n1 (by rw [t1, o1]; exact run_part_plain (P := Try.prog) w (e := 3) (by kernel_rfl) rfl) (by rw [t1, o1]; exact run_part_plain (P := Try.prog) w (e := 3) (by kernel_rfl) rfl) (by rw [t1]; exact e1)]
  rw [tk_step n2 (by rw [t2, o2]; exact run_part_plain (P := Try.prog) w (e := 9) (by kernel_rfl) rfl) (by rw [t2, o2]; exact run_part_plain (P := Try.prog) w (e := 9) (by kernel_rfl) rfl) (by rw [t2]; exact e2)]
  rw [tk_step n3 (by rw [t3, o3]; exact run_part_plain (P := Try.prog) w (e := 3) (by kernel_rfl) rfl) (by rw [t3, o3]; exact run_part_plain (P := Try.prog) w (e := 3) (by kernel_rfl) rfl) (by rw [t3]; exact e3)]
  rw [bytes_eq]
  obtain ⟨a, b, c, d⟩ := t
  obtain ⟨a', b', c', d'⟩ := u
  by_cases h1 : a = a' <;> by_cases h2 : b = b' <;> by_cases h3 : c = c' <;> by_cases h4 : d = d' <;> simp [h1, h2, h3, h4, Op.eqFields] <;> omega
theorem eql_tok (t u : Tk) (w : World) : (binOp .eql 47 (.agg (tkV t)) (.agg (tkV u))).run Try.prog w = .ok (.bool (decide (t = u))) w := by
  rw [run_eql_struct, eq_tok]; rfl
theorem neq_tok (t u : Tk) (w : World) : (binOp .neq 47 (.agg (tkV t)) (.agg (tkV u))).run Try.prog w = .ok (.bool (!decide (t = u))) w := by
  rw [run_neq_struct, eq_tok]; rfl
/-- A slice that holds words. -/
def RowT (w : World) (v : Value) (ts : List Tk) : Prop := ∃ (A : Option Addr) (cap : Nat), v = .slice A ts.length cap ∧ ts.length ≤ cap ∧ ∀ (k : Nat) (t : Tk), ts[k]? = some t → ∃ b o, A = some ⟨b, o, none⟩ ∧
  w.cell? ⟨b, o + k * 4, none⟩ = some (.int .i64 t.1) ∧ w.cell? ⟨b, o + k * 4 + 1, none⟩ = some (.int .i64 t.2.1) ∧ w.cell? ⟨b, o + k * 4 + 2, none⟩ = some (.string ⟨t.2.2.1.toArray⟩) ∧ w.cell? ⟨b, o + k * 4 + 3, none⟩ = some (.int .i64 t.2.2.2)
theorem RowT.nb {w w' : World} {v : Value} {ts : List Tk} (h : RowT w v ts) (n : Nb w w') : RowT w' v ts := by
  obtain ⟨A, cap, e, hc, hk⟩ := h
  refine ⟨A, cap, e, hc, fun k t ht => ?_⟩
  obtain ⟨b, o, hA, c0, c1, c2, c3⟩ := hk k t ht
  exact ⟨b, o, hA, n.cell c0, n.cell c1, n.cell c2, n.cell c3⟩
theorem flat_at (ts : List Tk) : ∀ (k : Nat) (t : Tk), ts[k]? = some t → (ts.flatMap tkL)[k * 4]? = some (.int .i64 t.1) ∧ (ts.flatMap tkL)[k * 4 + 1]? = some (.int .i64 t.2.1) ∧ (ts.flatMap tkL)[k * 4 + 2]? = some (.string ⟨t.2.2.1.toArray⟩) ∧ (ts.flatMap tkL)[k * 4 + 3]? = some (.int .i64 t.2.2.2) := by
  induction ts with
  | nil => intro k t h; simp at h
  | cons u us ih =>
    intro k t h
    cases k with
    | zero =>
      simp only [List.getElem?_cons_zero, Option.some.injEq] at h
      subst h
      exact ⟨rfl, rfl, rfl, rfl⟩
    | succ j =>
      rw [List.getElem?_cons_succ] at h
      obtain ⟨h0, h1, h2, h3⟩ := ih j t h
      rw [List.flatMap_cons]
      have e : ∀ i, (tkL u ++ us.flatMap tkL)[(j + 1) * 4 + i]? = (us.flatMap tkL)[j * 4 + i]? := fun i => by
        rw [List.getElem?_append_right (by show 4 ≤ _; omega)]
        congr 1
        show (j + 1) * 4 + i - 4 = _
        omega
      exact ⟨(e 0).trans h0, (e 1).trans h1, (e 2).trans h2, (e 3).trans h3⟩
theorem row_own {w : World} {B : Nat} {v : Value} {ts : List Tk} (h : w.ownsRow B 47 4 v ts.length (ts.flatMap tkL)) : RowT w v ts := by
  have h0 := h
  rcases h.2 with ⟨rfl, hn⟩ | ⟨g, cap, cur, rfl, -, -, hc, -⟩
  · obtain rfl := List.eq_nil_of_length_eq_zero hn
    exact ⟨none, 0, rfl, Nat.le_refl _, fun k t ht => by simp at ht⟩
  · refine ⟨_, _, rfl, hc, fun k t ht => ?_⟩
    obtain ⟨h0', h1, h2, h3⟩ := flat_at ts k t ht
    have hk : k < ts.length := by
      by_cases hh : k < ts.length
      · exact hh
      · rw [List.getElem?_eq_none (by omega)] at ht; cases ht
    have e : ∀ i, i < 4 → w.cell? ⟨g, 0 + k * 4 + i, none⟩ = (ts.flatMap tkL)[k * 4 + i]? := fun i hi => by
      rw [Nat.zero_add]; exact World.ownsRow.cellAt h0 _ (by omega)
    exact ⟨g, 0, rfl, (e 0 (by omega)).trans h0', (e 1 (by omega)).trans h1, (e 2 (by omega)).trans h2, (e 3 (by omega)).trans h3⟩
attribute [-go_sem] run_eql_struct run_neq_struct
theorem same_any (ts us : List Tk) (hx : ts.length ≤ 9223372036854775807) (hy : us.length ≤ 9223372036854775807) (v u : Value) (w : World) (hv : RowT w v ts) (hu : RowT w u us) :
    Calls Try.prog 20 #[v, u] w fun e w' => e = .returned (.bool (decide (ts = us))) ∧ Nb w w' := by
  obtain ⟨A, ca, rfl, hca, hA⟩ := hv
  obtain ⟨B, cb, rfl, hcb, hB⟩ := hu
  have hA := Lib.hid hA
  have hB := Lib.hid hB
  by_cases hl : ts.length = us.length
  · obtain ⟨N, hN⟩ : ∃ N, decide (ts = us) = N := ⟨_, rfl⟩
    rw [hN]
    have hN := Lib.hid (show decide (ts.drop 0 = us.drop 0) = N from hN)
    rw [← hl] at hcb ⊢
    have hlH := Lib.hid hl
    clear hl hy
    go_enter Try.func20, Try.ntmps20
    go_wp2_with fail
    go_loopw [5] (fun i wr => ∃ k : Nat, k ≤ ts.length ∧ i = .int .i64 k ∧ Nb w wr ∧ Hid (decide (ts.drop k = us.drop k) = N)) (fun i _ => ts.length - (intOf i).toNat)
    case atStart => exact ⟨0, Nat.zero_le _, rfl, Nb.refl _, hN⟩
    case round =>
      obtain ⟨k, hk, rfl, nb, hq⟩ := hrel
      by_cases hlt : k < ts.length
      · have hlt' : k < us.length := by have := hlH.out; omega
        obtain ⟨t, ht⟩ : ∃ t, ts[k] = t := ⟨_, rfl⟩
        obtain ⟨u, hu⟩ : ∃ u, us[k] = u := ⟨_, rfl⟩
        obtain ⟨b, o, rfl, c0, c1, c2, c3⟩ := hA.out k t (by rw [List.getElem?_eq_getElem hlt, ht])
        obtain ⟨b', o', rfl, d0, d1, d2, d3⟩ := hB.out k u (by rw [List.getElem?_eq_getElem hlt', hu])
        have c0 := nb.cell c0
        have c1 := nb.cell c1
        have c2 := nb.cell c2
        have c3 := nb.cell c3
        have d0 := nb.cell d0
        have d1 := nb.cell d1
        have d2 := nb.cell d2
        have d3 := nb.cell d3
        have hlt2 : (k : Int) < (ts.length : Int) := by omega
        have hd := hq.out
        rw [List.drop_eq_getElem_cons hlt, List.drop_eq_getElem_cons hlt', ht, hu] at hd
        have hnq := fun w => neq_tok t u w
        by_cases htu : t = u
        · have hN := Lib.hid (show decide (ts.drop (k + 1) = us.drop (k + 1)) = N by rw [← hd, htu]; simp)
          replace hnq := fun w => (hnq w).trans (by rw [decide_eq_true htu]; rfl : _ = .ok (.bool false) w)
          clear hd hq ht hu hlt' htu
          go_upto_region 6 with (fail)
          go_quiet (fail)
          go_wp2_with fail
          exact ⟨⟨k + 1, by omega, by simp, nb.drewN nq, hN⟩, by simp [intOf] <;> omega⟩
        · have hN : N = false := by rw [← hd]; simp [htu]
          subst hN
          replace hnq := fun w => (hnq w).trans (by rw [decide_eq_false htu]; rfl : _ = .ok (.bool true) w)
          clear hd hq ht hu hlt' htu
          go_upto_region 6 with (fail)
          go_quiet (fail)
          go_wp2_with fail
          go_ret
          exact ⟨rfl, nb.drewN nq⟩
      · obtain rfl : k = ts.length := by omega
        have hN : N = true := by rw [← hq.out, List.drop_length, hlH.out, List.drop_length]; rfl
        subst hN
        clear hq
        go_wp2_with fail
        go_ret
        exact ⟨rfl, nb⟩
  · have hN : decide (ts = us) = false := by
      rw [decide_eq_false_iff_not]
      rintro rfl
      exact hl rfl
    rw [hN]
    have hl2 : ¬ (ts.length : Int) = (us.length : Int) := by omega
    go_enter Try.func20, Try.ntmps20
    go_wp2_with fail
    go_ret
    exact ⟨rfl, Nb.refl _⟩
end Go.Proofs.Yticifolljhplmaa
