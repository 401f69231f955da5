/-
  Proved here: any bytes are by lex the words that the document says, or the first wrong one is told. No condition.
-/
import Derived.Test.YticifolljhplmaaKp
import Derived.Test.YticifolljhplmaaKq
namespace Go.Proofs.Yticifolljhplmaa.lexWords
open Go.ChangeShapes Go.WideShapes Go.ChangeAt Go.RowKit
set_option linter.unusedVariables false
set_option linter.unusedSimpArgs false
theorem row_len {w : World} {B : Nat} {v : Value} {ts : List Tk} (h : w.ownsRow B 47 4 v ts.length (ts.flatMap tkL)) : ts.length ≤ 9223372036854775807 := by
  rcases h.2 with ⟨-, hn⟩ | ⟨g, cap, cur, -, -, -, hc, hm, -⟩
  · omega
  · unfold maxLen at hm
    omega
set_option maxRecDepth 100000 in
set_option maxHeartbeats 2000000 in
theorem walk (A : Option Addr) (cap : Nat) (xs : Bs) (hx : xs.length ≤ 9223372036854775807) (hc : xs.length ≤ cap) (w : World) (hS : Hid (SrcB w A xs)) :
    Calls Try.prog 4 #[.slice A xs.length cap] w fun e w' => e = .returned (.bool true) ∧ Nb w w' := by
  by_cases h1 : (3000 : Int) < (xs.length : Int) ∧ (xs.length : Int) ≤ 65536
  · obtain ⟨h1, h2⟩ := h1
    go_enter Try.func4, Try.ntmps4
    go_wp2_with (go_at_call 17; refine (lives_any _).mono ?_; rintro e w1 ⟨rfl, n1⟩)
    go_ret
    exact ⟨rfl, n1⟩
  · have key1 := Lib.hid (tokens_any A cap xs hc hx w hS.out)
    have key2 := Lib.hid (fun w1 (n : Nb w w1) => rtokens_any A cap xs hc hx w1 (hS.out.nb n))
    have hsm := Lib.hid (fun w1 v u (h1 : (TA xs).1.length ≤ 9223372036854775807) (hv : RowT w1 v (TA xs).1) (hu : RowT w1 u (TA xs).1) => (same_any (TA xs).1 (TA xs).1 h1 h1 v u w1 hv hu).mono (R' := fun e w' => e = .returned (.bool true) ∧ Nb w1 w') (by
      rintro e w' ⟨rfl, n⟩
      exact ⟨by rw [decide_eq_true rfl], n⟩))
    have h12 : ¬ (3000 : Int) < (xs.length : Int) ∨ ((3000 : Int) < (xs.length : Int) ∧ ¬ (xs.length : Int) ≤ 65536) := by omega
    obtain ⟨p, hp⟩ : ∃ p : Nat, (TA xs).2.1 = p := ⟨_, rfl⟩
    obtain ⟨o, ho⟩ : ∃ o : Bool, (TA xs).2.2 = o := ⟨_, rfl⟩
    have hp := Lib.hid hp
    have ho := Lib.hid ho
    clear hS
    rcases h12 with h1 | ⟨h1, h2⟩
    all_goals
      cases o
      all_goals
        go_enter Try.func4, Try.ntmps4
        go_wp2_with (first
          | (go_at_call 18; refine (key1.out).mono ?_; rintro e w1 ⟨v1, rfl, n1, o1⟩; rw [hp.out, ho.out]; have hlen := row_len o1; replace o1 := Lib.hid (row_own o1))
          | (go_at_call 19; refine (key2.out _ n1).mono ?_; rintro e w2 ⟨v2, rfl, n2, o2⟩; rw [hp.out, ho.out]; replace o2 := Lib.hid (row_own o2))
          | (go_at_call 20; refine (hsm.out _ _ _ hlen (o1.out.nb n2) o2.out).mono ?_; rintro e w3 ⟨rfl, n3⟩)
          | (go_at_call 17; refine (lives_any _).mono ?_; rintro e w4 ⟨rfl, n4⟩))
        go_ret
        exact ⟨rfl, ((n1.trans n2).trans n3).trans n4⟩
/-! The row's step. -/
set_option maxRecDepth 100000 in
set_option maxHeartbeats 1000000 in
theorem lifted (os : Os) (started : os.Started) (H : Type) (enc : TypeId × Value → H) :
    ReturnsInHanded {} Try.checked os 4 .any (Rows.lexWordsSpec.pre6 enc Try.prog Try.f4 Rows.lexWordsRow.domain false)
      (Rows.lexWordsSpec.post enc Try.prog Try.f4 false true false false) := by
  refine returnsInHanded_of_change (C := Try.checked) own started (by kernel_rfl) Try.func4
    (ChangeSpec.witness6 (enc := enc) (C := Try.checked) false ⟨#[], #[.slice none 0 0], []⟩ 8 (by kernel_rfl) (by kernel_rfl) (by kernel_rfl) (by kernel_rfl)) ?_
  intro W base args ds gs before hval0 hW _ _
  have hval : ∀ (j : Nat) t v, Try.f4.params[j]? = some t → args[j]? = some v → Value.okWide Try.prog W .any base t v := hval0
  have hW' := hW
  obtain ⟨p, q, hA0, hV, rfl, hfz, hnd⟩ := hW
  have hA1 : DataW.TrodAll enc Try.prog W 0 (fun _ => true) true Try.f4.params.toList args.toList ds p := hA0
  have hA := hA1
  rw [Try.params4] at hA hval
  obtain ⟨v0, vs0, d0, ds0, p0, q0, hargs0, rfl, -, h0, r0⟩ := trodAll_cons hA
  obtain ⟨rfl, rfl, -⟩ := trodAll_nil r0
  obtain rfl : args = #[v0] := by cases args; simp_all
  obtain ⟨rfl, rfl⟩ := trodVars_none hV
  obtain ⟨A0, cap0, bs0, rfl, hl0, hc0, hI0⟩ := open_bytes (hval 0 36 v0 rfl rfl) h0
  clear hval0
  simp only [List.append_nil] at hW'
  refine (walk A0 cap0 bs0 hl0 hc0 W (Lib.hid hI0)).mono fun e W' ⟨he, hg⟩ => ?_
  subst he
  exact ⟨_, rfl, post_of_nb (pa := p) (pv := []) hW' (fun _ _ _ => (trodAll_cons_mk (shut_bool Try.underlying4 _) trodAll_mk0))
    (fun sp hsp => args_stay (by kernel_rfl) hg hA1 (fun t ht => by
      have h0 : (Try.f4.params.toList.all fun t => Try.prog.readableRec t && decide (t < Try.prog.types.size)) = true := by kernel_rfl
      have h1 := List.all_eq_true.1 h0 t ht
      rw [Bool.and_eq_true, decide_eq_true_eq] at h1
      exact h1) (fun x hx => hW'.lt x hx) hsp)
    (fun _ _ => rfl) (by simp) hg (ok_one (by kernel_rfl) rfl (okWide_bool_mk Try.underlying4 _))⟩
theorem over : Rows.lexWordsRow.holds Try.pinned (OpenSpec.ofChange Rows.lexWordsSpec) :=
  OpenClaim.holds_of_wide 4 Try.f4 rfl rfl rfl rfl rfl rfl rfl ⟨rfl, rfl, rfl, rfl, rfl⟩ rfl rfl rfl rfl rfl (by kernel_rfl) Try.func4 (by kernel_rfl)
    (of_decide_eq_true (by kernel_rfl)) (by unfold Func.isWrapper; first | (rw [if_pos (by decide +kernel)]; kernel_rfl) | (rw [if_neg (by decide +kernel)]; exact ⟨rfl, rfl⟩))
    (fun os started H enc _ => lifted os started H enc)
/-- The statement. -/
theorem proved : Rows.LexWordsSaid := over
#print axioms proved
end Go.Proofs.Yticifolljhplmaa.lexWords
