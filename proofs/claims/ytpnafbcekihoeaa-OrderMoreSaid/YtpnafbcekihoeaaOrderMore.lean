/-
  Proved here: a fence more between two operations leaves all rules that held; one of 3 and 3 puts all that is ahead ahead, by the code of order. No condition.
-/
import Derived.Test.YtpnafbcekihoeaaZg
import Derived.Test.YtpnafbcekihoeaaZi
namespace Go.Proofs.Ytpnafbcekihoeaa.orderMore
open Go.ChangeShapes Go.WideShapes Go.ChangeAt Go.RowKit
set_option linter.unusedVariables false
set_option linter.unusedSimpArgs false
set_option maxRecDepth 100000 in
set_option maxHeartbeats 4000000 in
theorem walk (vl : Value) (L : List OpD) (at_ pred succ : Int) (ll : L.length ≤ 9223372036854775807) (zl : ∀ n c, vl = .slice none n c → c = 0) (ha : InR at_) (hp : InR pred) (hs : InR succ) (w : World) (hl0 : Hid (OpsR0 w vl L)) :
    Calls Try.prog 3 #[vl, .int .i64 at_, .int .i64 pred, .int .i64 succ] w fun e w' => e = .returned (.bool true) ∧ Below w.heap.size w w' := by
  have hl := hl0.out
  clear hl0
  obtain ⟨p, c, rfl, -⟩ := hl.cases
  have H1 := Lib.hid (fun w1 (k : Nb w w1) => light_any _ L w1 (hl.nb k) ll)
  have r0 : Nb w w := Nb.refl w
  cases c1 : LightS L with
  | false =>
    rw [c1] at H1
    obtain ⟨n, hn⟩ : ∃ n, L.length = n := ⟨_, rfl⟩
    rw [hn] at H1 ll ⊢
    clear hl zl hn c1
    go_enter Try.func3, Try.ntmps3
    go_wp2_with (first
      | (go_at_call 6; (with_reducible refine (H1.out _ r0).mono ?_); rintro e w1 ⟨rfl, k1⟩)
      | (go_at_call 7; refine (lives_any _).mono ?_; rintro e w2 ⟨rfl, k2⟩))
    go_ret
    exact ⟨rfl, k1.trans k2⟩
  | true =>
    rw [c1] at H1
    have hL := hl.light c1
    obtain ⟨hsh, l60⟩ := light_short c1
    by_cases h0 : L.length = 0
    · rw [h0] at H1 zl ⊢
      exact none_ p c at_ pred succ w ha (fun e => zl _ c (by rw [e])) H1
    · rcases hL with ⟨-, e⟩ | ⟨b, o, c', e, hb, hc, hx⟩
      · rw [e] at h0
        simp at h0
      · have hL := hl.light c1
        injection e with e1 e2 e3
        subst e1 e3
        obtain ⟨n, hn⟩ : ∃ n, L.length = n := ⟨_, rfl⟩
        rw [hn] at H1 l60 h0 hc hL ⊢
        exact main b o n c L at_ pred succ w (Lib.hid hL) (Lib.hid hn) (by omega) l60 hc (Lib.hid hsh) ha H1
/-! The row's step. -/
set_option maxRecDepth 100000 in
set_option maxHeartbeats 1000000 in
theorem lifted (os : Os) (started : os.Started) (H : Type) (enc : TypeId × Value → H) :
    ReturnsInHanded {} Try.checked os 3 .any (Rows.orderMoreSpec.pre6 enc Try.prog Try.f3 Rows.orderMoreRow.domain false)
      (Rows.orderMoreSpec.post enc Try.prog Try.f3 false true false false) := by
  refine returnsInHanded_of_change (C := Try.checked) own started (by kernel_rfl) Try.func3
    (ChangeSpec.witness6 (enc := enc) (C := Try.checked) false ⟨#[], #[.slice none 0 0, .int .i64 0, .int .i64 0, .int .i64 0], []⟩ 8 (by kernel_rfl) (by kernel_rfl) (by kernel_rfl) (by kernel_rfl)) ?_
  intro W base args ds gs before hval0 hW _ _
  have hval : ∀ (j : Nat) t v, Try.f3.params[j]? = some t → args[j]? = some v → Value.okWide Try.prog W .any base t v := hval0
  have hW' := hW
  obtain ⟨p, q, hA0, hV, rfl, hfz, hnd⟩ := hW
  have hA1 : DataW.TrodAll enc Try.prog W 0 (fun _ => true) true Try.f3.params.toList args.toList ds p := hA0
  have hA := hA1
  rw [Try.params3] at hA hval
  obtain ⟨v0, vs0, d0, ds0, p0, q0, hargs0, rfl, -, h0, r0⟩ := trodAll_cons hA
  obtain ⟨v1, vs1, d1, ds1, p1, q1, hargs1, rfl, -, h1, r1⟩ := trodAll_cons r0
  obtain ⟨v2, vs2, d2, ds2, p2, q2, hargs2, rfl, -, h2, r2⟩ := trodAll_cons r1
  obtain ⟨v3, vs3, d3, ds3, p3, q3, hargs3, rfl, -, h3, r3⟩ := trodAll_cons r2
  obtain ⟨rfl, rfl, -⟩ := trodAll_nil r3
  obtain rfl : args = #[v0, v1, v2, v3] := by cases args; simp_all
  obtain ⟨rfl, rfl⟩ := trodVars_none hV
  obtain ⟨l0, hO0, hln0, hpr0, hnz0⟩ := open_ops (hval 0 22 v0 rfl rfl) h0
  obtain ⟨n1, rfl, -, -, w1⟩ := open_int Try.underlying3 (hval 1 3 v1 rfl rfl) h1
  obtain ⟨n2, rfl, -, -, w2⟩ := open_int Try.underlying3 (hval 2 3 v2 rfl rfl) h2
  obtain ⟨n3, rfl, -, -, w3⟩ := open_int Try.underlying3 (hval 3 3 v3 rfl rfl) h3
  clear hval0
  simp only [List.append_nil] at hW'
  refine (walk v0 l0 n1 n2 n3 hln0 hnz0 (i64_of w1) (i64_of w2) (i64_of w3) W (Lib.hid hO0)).mono fun e W' ⟨he, hg⟩ => ?_
  subst he
  exact ⟨_, rfl, post_of_nb (pa := p) (pv := []) hW' (fun _ _ _ => (trodAll_cons_mk (shut_bool Try.underlying4 _) trodAll_mk0))
    (fun sp hsp => args_stay (by kernel_rfl) hg hA1 (fun t ht => by
      have h0 : (Try.f3.params.toList.all fun t => Try.prog.readableRec t && decide (t < Try.prog.types.size)) = true := by kernel_rfl
      have h1 := List.all_eq_true.1 h0 t ht
      rw [Bool.and_eq_true, decide_eq_true_eq] at h1
      exact h1) (fun x hx => hW'.lt x hx) hsp)
    (fun _ _ => rfl) (by simp) hg (ok_one (by kernel_rfl) rfl (okWide_bool_mk Try.underlying4 _))⟩
theorem over : Rows.orderMoreRow.holds Try.pinned (OpenSpec.ofChange Rows.orderMoreSpec) :=
  OpenClaim.holds_of_wide 3 Try.f3 rfl rfl rfl rfl rfl rfl rfl ⟨rfl, rfl, rfl, rfl, rfl⟩ rfl rfl rfl rfl rfl (by kernel_rfl) Try.func3 (by kernel_rfl)
    (of_decide_eq_true (by kernel_rfl)) (by unfold Func.isWrapper; first | (rw [if_pos (by decide +kernel)]; kernel_rfl) | (rw [if_neg (by decide +kernel)]; exact ⟨rfl, rfl⟩))
    (fun os started H enc _ => lifted os started H enc)
/-- The statement. -/
theorem proved : Rows.OrderMoreSaid := over
#print axioms proved
end Go.Proofs.Ytpnafbcekihoeaa.orderMore
