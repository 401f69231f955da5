/-
  Proved here: which rules hold of two operations hangs on them, and on those between them, alone, by the code of order. No condition.
-/
import Derived.Test.YtpnafbcekihoeaaZb
import Derived.Test.YtpnafbcekihoeaaZc
import Derived.Test.YtpnafbcekihoeaaZd
namespace Go.Proofs.Ytpnafbcekihoeaa.orderOwn
open Go.ChangeShapes Go.WideShapes Go.ChangeAt Go.RowKit
set_option linter.unusedVariables false
set_option linter.unusedSimpArgs false
set_option maxRecDepth 100000 in
set_option maxHeartbeats 8000000 in
theorem main (p pa pb : Option Addr) (n na nb c ca cb : Nat) (L A B : List OpD) (i j : Int) (w : World) (hL : Hid (OpsR w (.slice p n c) L)) (hA : Hid (OpsR w (.slice pa na ca) A)) (hB : Hid (OpsR w (.slice pb nb cb) B))
    (hn' : Hid (L.length = n)) (hna' : Hid (A.length = na)) (hnb' : Hid (B.length = nb)) (l60 : n ≤ 60) (a60 : na ≤ 60) (b60 : nb ≤ 60)
    (zlh : Hid (p = none → c = 0)) (zah : Hid (pa = none → ca = 0)) (zbh : Hid (pb = none → cb = 0))
    (hslh : Hid (∀ m ∈ L, ShortOp m)) (hsah : Hid (∀ m ∈ A, ShortOp m)) (hsbh : Hid (∀ m ∈ B, ShortOp m)) (hi : InR i) (hj : InR j)
    (H1 : Hid (∀ w1, Nb w w1 → Calls Try.prog 6 #[.slice p n c] w1 fun e w' => e = .returned (.bool true) ∧ Nb w1 w'))
    (H2 : Hid (∀ w1, Nb w w1 → Calls Try.prog 6 #[.slice pa na ca] w1 fun e w' => e = .returned (.bool true) ∧ Nb w1 w'))
    (H3 : Hid (∀ w1, Nb w w1 → Calls Try.prog 6 #[.slice pb nb cb] w1 fun e w' => e = .returned (.bool true) ∧ Nb w1 w')) :
    Calls Try.prog 4 #[.slice p n c, .slice pa na ca, .slice pb nb cb, .int .i64 i, .int .i64 j] w fun e w' => e = .returned (.bool true) ∧ Nb w w' := by
  obtain ⟨i0, hi0, hz0, hz1, hz2⟩ := info_parts info_op
  have r0 : Nb w w := Nb.refl w
  go_enter Try.func4, Try.ntmps4
  go_upto_region 3 with (first
    | (go_at_call 6; (with_reducible refine (H1.out _ r0).mono ?_); rintro e w1 ⟨rfl, k1⟩)
    | (go_at_call 6; (with_reducible refine (H2.out _ k1).mono ?_); rintro e w2 ⟨rfl, k2⟩; replace k2 := k1.trans k2)
    | (go_at_call 6; (with_reducible refine (H3.out _ k2).mono ?_); rintro e w3 ⟨rfl, k3⟩; replace k3 := k2.trans k3))
  clear H1 H2 H3 k1 k2
  have hz3 := k3.size
  have hmx : (200 : Nat) ≤ maxLen := by decide
  go_upto_region 4 with (first
    | (at_builtin; refine wpList_append_src rfl (.tmp 28) (.tmp 29) 22 rfl w.heap.size 29 i0 _ 17 176 Try.underlying22 hi0 hz0 hz1 hz2 rfl (by decide) _ 0 [] rfl (own0 (new_blk w3 _ rfl) hz3) _ na (A.flatMap OpD.cells) rfl (src_ops (hA.out.nb (k3.alloc _)) hna'.out zah.out) (by omega) (by omega) (by simp; omega) ?_; intro v1 W1 o1 g1; have n1 := (k3.alloc (.cells #[] 29)).grown g1 (fun r e => by cases e; exact hz3))
    | (at_builtin; refine wpList_append_src rfl (.tmp 30) (.tmp 31) 22 rfl w.heap.size 29 i0 _ 17 176 Try.underlying22 hi0 hz0 hz1 hz2 rfl (by decide) _ _ _ rfl o1 _ n (L.flatMap OpD.cells) rfl (src_ops (hL.out.nb n1) hn'.out zlh.out) (by omega) (by omega) n1.size ?_; intro v2 W2 o2 g2; have n2 := n1.grown g2 (own_ge o1))
    | (at_builtin; refine wpList_append_src rfl (.tmp 32) (.tmp 33) 22 rfl w.heap.size 29 i0 _ 17 176 Try.underlying22 hi0 hz0 hz1 hz2 rfl (by decide) _ _ _ rfl o2 _ nb (B.flatMap OpD.cells) rfl (src_ops (hB.out.nb n2) hnb'.out zbh.out) (by omega) (by omega) n2.size ?_; intro v3 W3 o3 g3; have n3 := n2.grown g3 (own_ge o2)))
  have hM : OpsR W3 v3 (A ++ (L ++ B)) := ops_app (n := 0 + na + n + nb) (by simp; have := hn'.out; have := hna'.out; have := hnb'.out; omega) (by simp [List.flatMap_append]) o3 (by
    intro d hd
    simp only [List.mem_append] at hd
    rcases hd with hd | hd | hd
    · exact (hA.out.has d hd).nb n3
    · exact (hL.out.has d hd).nb n3
    · exact (hB.out.has d hd).nb n3)
  have hRL := Lib.hid (rules_c (hL.out.nb n3) (by rw [hn'.out]; omega) hslh.out)
  have hRM := Lib.hid (rules_c hM (by simp; have := hn'.out; have := hna'.out; have := hnb'.out; omega) (by
    intro m hm
    simp only [List.mem_append] at hm
    rcases hm with h | h | h
    · exact hsah.out m h
    · exact hslh.out m h
    · exact hsbh.out m h))
  have hLp := Lib.hid (hL.out.nb n3)
  have n3h := Lib.hid n3
  clear o1 o2 o3 g1 g2 g3 n1 n2 n3 hM hi0 hz0 hz1 hz2 hz3 hmx k3
  go_wp2_with fail
  go_loopw [37] (fun i wr => ∃ k : Nat, k ≤ n ∧ i = .int .i64 k ∧ Nb W3 wr) (fun i _ => n - (intOf i).toNat)
  case atStart => exact ⟨0, Nat.zero_le _, rfl, Nb.refl _⟩
  case round =>
    obtain ⟨k, hk, rfl, hN⟩ := hrel
    by_cases hlt : k < n
    · have e1 : IntKind.i64.wrap ((k : Int) + 1) = ((k + 1 : Nat) : Int) := by rw [IntKind.wrap_i64]; omega
      go_wp2_with fail
      go_loopw [13] (fun b wi => ∃ m : Nat, k ≤ m ∧ m ≤ n ∧ b = .int .i64 m ∧ Nb W3 wi) (fun b _ => n - (intOf b).toNat)
      case atStart => exact ⟨k, Nat.le_refl _, by omega, rfl, hN⟩
      case round =>
        obtain ⟨m, hkm, hm, rfl, hN2⟩ := hrel
        by_cases hlt2 : m < n
        · have hEq := Lib.hid (show rulesS L (k : Int) (m : Int) = rulesS (A ++ (L ++ B)) ((na : Int) + (k : Int)) ((na : Int) + (m : Int)) by
            have := rules_own (A := A) (L := L) (B := B) (i := k) (j := m) hkm (by rw [hn'.out]; exact hlt2)
            rw [hna'.out] at this
            exact this.symm)
          have e2 : IntKind.i64.wrap ((m : Int) + 1) = ((m + 1 : Nat) : Int) := by rw [IntKind.wrap_i64]; omega
          go_wp2_with (first
            | (go_at_call 8; (with_reducible refine (hRL.out _ hN2 _ _ (by omega) (by omega)).mono ?_); rintro e wa ⟨u, rfl, hu, ka⟩; have hu' := Lib.hid hu; have hNa := hN2.trans ka; clear hu)
            | (go_at_call 8; (with_reducible refine (hRM.out _ hNa _ _ (by omega) (by omega)).mono ?_); rintro e wb ⟨u2, rfl, hu2, kb⟩; have hu2' := Lib.hid hu2; have hNb := hNa.trans kb; clear hu2)
            | (go_at_call 11; (with_reducible refine (ints_c (hu'.out.nb kb) hu2'.out (rulesS_len _ _ _) hEq.out).mono ?_); rintro e wc ⟨rfl, kc⟩))
          go_roundw
          case rel => exact ⟨m + 1, by omega, hlt2, by simp, hNb.trans kc⟩
          case measure => simp [intOf, e2]; omega
        · obtain rfl : m = n := by omega
          go_wp2_with fail
          go_roundw
          case rel => exact ⟨k + 1, hlt, by simp, hN2⟩
          case measure => simp [intOf, e1]; omega
    · obtain rfl : k = n := by omega
      go_upto_region 13 with (fail)
      have n3 := n3h.out
      clear n3h
      obtain ⟨hi1, hi2⟩ := hi
      obtain ⟨hj1, hj2⟩ := hj
      by_cases d : 0 ≤ i ∧ i < j ∧ j < (k : Int)
      · obtain ⟨d0, d1, d2⟩ := d
        obtain ⟨ni, rfl⟩ : ∃ ni : Nat, i = (ni : Int) := ⟨i.toNat, by omega⟩
        obtain ⟨nj, rfl⟩ : ∃ nj : Nat, j = (nj : Int) := ⟨j.toNat, by omega⟩
        have hEq := Lib.hid (rules_part (L := L) (i := ni) (j := nj) (by omega) (by rw [hn'.out]; omega))
        obtain ⟨b, o, hp, hcap, hx⟩ : ∃ b o, p = some ⟨b, o, none⟩ ∧ k ≤ c ∧ ∀ (i : Nat) (d : OpD), L[i]? = some d → OpAt W3 b (o + i * 17) d := by
          rcases hLp.out with ⟨-, e⟩ | ⟨b, o, c', e, hb, hc, hx⟩
          · have := hn'.out; rw [e] at this; simp at this; omega
          · injection e with e1 e2 e3
            subst e3
            exact ⟨b, o, e1, by rw [← hn'.out]; exact hc, hx⟩
        subst hp
        obtain ⟨m1, hm1⟩ : ∃ m1, nj + 1 = m1 := ⟨_, rfl⟩
        have hOs : OpsR W3 (.slice (some ⟨b, o + ni * 17, none⟩) (m1 - ni) (c - ni)) ((L.take m1).drop ni) := by
          subst hm1
          have hnl := hn'.out
          refine .inr ⟨b, o + ni * 17, c - ni, by rw [List.length_drop, List.length_take]; congr 1; omega, ?_, by rw [List.length_drop, List.length_take]; omega, fun q d hq => ?_⟩
          · exact (hx 0 _ (List.getElem?_eq_getElem (by omega))).lt
          · have h1 : L[ni + q]? = some d := by
              rw [List.getElem?_drop, List.getElem?_take] at hq
              split at hq
              · exact hq
              · cases hq
            have h2 := hx _ d h1
            rw [show o + ni * 17 + q * 17 = o + (ni + q) * 17 by omega]
            exact h2
        have hRS := Lib.hid (rules_c hOs (by rw [List.length_drop, List.length_take]; have := hn'.out; omega) (fun m hm => hslh.out m (List.mem_of_mem_take (List.mem_of_mem_drop hm))))
        have e1 : IntKind.i64.wrap ((nj : Int) + 1) = (m1 : Int) := by rw [IntKind.wrap_i64]; omega
        have e2 : IntKind.i64.wrap ((nj : Int) - (ni : Int)) = (nj : Int) - (ni : Int) := by rw [IntKind.wrap_i64]; omega
        have hm1' := Lib.hid hm1
        have b1 : (ni : Int) ≤ (m1 : Int) := by omega
        have b2 : (m1 : Int) ≤ (c : Int) := by omega
        have b3 : ni ≤ m1 := by omega
        have b4 : m1 ≤ c := by omega
        have b5 : ¬ c = ni := by omega
        rw [hm1] at hEq
        clear hOs hx hRM hm1 hi1 hi2 hj1 hj2
        go_upto_region 15 with (fail)
        go_region_held3 (fun w' => Nb W3 w') (repeat (first | (with_reducible first | assumption | exact Nb.refl _ | refine Nb.drew1 ?_ | refine Nb.alloc ?_ _ | refine Nb.trans ?_ ka | refine Nb.trans ?_ kb | refine Nb.trans ?_ kc | refine Nb.trans ?_ kd)))
          (first
            | (go_at_call 8; (with_reducible refine (hRL.out _ ?_ _ _ (by omega) (by omega)).mono ?_); (focus (repeat (first | (with_reducible first | assumption | exact Nb.refl _ | refine Nb.drew1 ?_ | refine Nb.alloc ?_ _ | refine Nb.trans ?_ ka | refine Nb.trans ?_ kb | refine Nb.trans ?_ kc | refine Nb.trans ?_ kd)))); rintro e wa ⟨u, rfl, hu, ka⟩; have hu' := Lib.hid hu; clear hu)
            | (go_at_call 8; (with_reducible refine (hRS.out _ ?_ _ _ (by omega) (by omega)).mono ?_); (focus (repeat (first | (with_reducible first | assumption | exact Nb.refl _ | refine Nb.drew1 ?_ | refine Nb.alloc ?_ _ | refine Nb.trans ?_ ka | refine Nb.trans ?_ kb | refine Nb.trans ?_ kc | refine Nb.trans ?_ kd)))); rintro e wb ⟨u2, rfl, hu2, kb⟩; have hu2' := Lib.hid hu2; clear hu2)
            | (go_at_call 11; (with_reducible refine (ints_c (IntsR.nb hu'.out ?_) (IntsR.nb hu2'.out ?_) (rulesS_len _ _ _) hEq.out.symm).mono ?_); (focus (repeat (first | (with_reducible first | assumption | exact Nb.refl _ | exact Nb.refl _ | refine Nb.drew1 ?_ | refine Nb.alloc ?_ _ | refine Nb.trans ?_ ka | refine Nb.trans ?_ kb | refine Nb.trans ?_ kc | refine Nb.trans ?_ kd)))); (focus (repeat (first | (with_reducible first | assumption | exact Nb.refl _ | refine Nb.drew1 ?_ | refine Nb.alloc ?_ _ | refine Nb.trans ?_ ka | refine Nb.trans ?_ kb | refine Nb.trans ?_ kc | refine Nb.trans ?_ kd)))); rintro e wc ⟨rfl, kc⟩)
            | (go_at_call 7; refine (lives_any _).mono ?_; rintro e wd ⟨rfl, kd⟩))
        all_goals
          go_wp2_with fail
          go_ret
          exact ⟨rfl, n3.trans (by (repeat (first | (with_reducible first | assumption | exact Nb.refl _ | refine Nb.drew1 ?_ | refine Nb.alloc ?_ _ | refine Nb.trans ?_ ka | refine Nb.trans ?_ kb | refine Nb.trans ?_ kc | refine Nb.trans ?_ kd))))⟩
      · have hr := Lib.hid (show rulesS L i j = [] by unfold rulesS; rw [if_neg (by rw [hn'.out]; exact d)])
        clear hRM
        by_cases d0 : i < 0
        rotate_left
        by_cases d1 : j < 0
        rotate_left
        by_cases d2 : j ≤ i
        rotate_left
        have d3 : (k : Int) ≤ j := by omega
        all_goals
          clear d
          go_wp2_with (first
            | (go_at_call 8; (with_reducible refine (hRL.out _ hN _ _ (by omega) (by omega)).mono ?_); rintro e wa ⟨u, rfl, hu, ka⟩; rw [hr.out] at hu; obtain ⟨pu, cu, hue⟩ := hu.cases; simp only [List.length_nil] at hue; subst hue; clear hu)
            | (go_at_call 7; refine (lives_any _).mono ?_; rintro e wb ⟨rfl, kb⟩))
          go_ret
          exact ⟨rfl, n3.trans (hN.trans (ka.trans kb))⟩
set_option maxRecDepth 100000 in
set_option maxHeartbeats 4000000 in
theorem walk (vl : Value) (L : List OpD) (va : Value) (A : List OpD) (vb : Value) (B : List OpD) (i j : Int) (ll : L.length ≤ 9223372036854775807) (zl : ∀ n c, vl = .slice none n c → c = 0) (la : A.length ≤ 9223372036854775807) (za : ∀ n c, va = .slice none n c → c = 0)
    (lb : B.length ≤ 9223372036854775807) (zb : ∀ n c, vb = .slice none n c → c = 0) (hi : InR i) (hj : InR j) (w : World) (hl0 : Hid (OpsR0 w vl L)) (ha0 : Hid (OpsR0 w va A)) (hb0 : Hid (OpsR0 w vb B)) :
    Calls Try.prog 4 #[vl, va, vb, .int .i64 i, .int .i64 j] w fun e w' => e = .returned (.bool true) ∧ Below w.heap.size w w' := by
  have hl := hl0.out
  have ha := ha0.out
  have hb := hb0.out
  clear hl0 ha0 hb0
  obtain ⟨p, c, rfl, -⟩ := hl.cases
  obtain ⟨pa, ca, rfl, -⟩ := ha.cases
  obtain ⟨pb, cb, rfl, -⟩ := hb.cases
  have H1 := Lib.hid (fun w1 (k : Nb w w1) => light_any _ L w1 (hl.nb k) ll)
  have H2 := Lib.hid (fun w1 (k : Nb w w1) => light_any _ A w1 (ha.nb k) la)
  have H3 := Lib.hid (fun w1 (k : Nb w w1) => light_any _ B w1 (hb.nb k) lb)
  have hl' := Lib.hid hl
  have ha' := Lib.hid ha
  have hb' := Lib.hid hb
  obtain ⟨n, hn⟩ : ∃ n, L.length = n := ⟨_, rfl⟩
  obtain ⟨na, hna⟩ : ∃ n, A.length = n := ⟨_, rfl⟩
  obtain ⟨nb, hnb⟩ : ∃ n, B.length = n := ⟨_, rfl⟩
  rw [hn] at H1 hl' ll ⊢
  rw [hna] at H2 ha' la ⊢
  rw [hnb] at H3 hb' lb ⊢
  have hn' := Lib.hid hn
  have hna' := Lib.hid hna
  have hnb' := Lib.hid hnb
  have r0 : Nb w w := Nb.refl w
  clear hl ha hb hn hna hnb
  cases c1 : LightS L with
  | false =>
    rw [c1] at H1
    clear c1
    go_enter Try.func4, Try.ntmps4
    go_wp2_with (first
      | (go_at_call 6; refine (H1.out _ r0).mono ?_; rintro e w1 ⟨rfl, k1⟩)
      | (go_at_call 7; refine (lives_any _).mono ?_; rintro e w2 ⟨rfl, k2⟩))
    go_ret
    exact ⟨rfl, k1.trans k2⟩
  | true =>
    cases c2 : LightS A with
    | false =>
      rw [c1] at H1
      rw [c2] at H2
      clear c1 c2
      go_enter Try.func4, Try.ntmps4
      go_wp2_with (first
        | (go_at_call 6; (with_reducible refine (H1.out _ r0).mono ?_); rintro e w1 ⟨rfl, k1⟩)
        | (go_at_call 6; (with_reducible refine (H2.out _ k1).mono ?_); rintro e w2 ⟨rfl, k2⟩; replace k2 := k1.trans k2)
        | (go_at_call 7; refine (lives_any _).mono ?_; rintro e w3 ⟨rfl, k3⟩))
      go_ret
      exact ⟨rfl, k2.trans k3⟩
    | true =>
      cases c3 : LightS B with
      | false =>
        rw [c1] at H1
        rw [c2] at H2
        rw [c3] at H3
        clear c1 c2 c3
        go_enter Try.func4, Try.ntmps4
        go_wp2_with (first
          | (go_at_call 6; (with_reducible refine (H1.out _ r0).mono ?_); rintro e w1 ⟨rfl, k1⟩)
          | (go_at_call 6; (with_reducible refine (H2.out _ k1).mono ?_); rintro e w2 ⟨rfl, k2⟩; replace k2 := k1.trans k2)
          | (go_at_call 6; (with_reducible refine (H3.out _ k2).mono ?_); rintro e w3 ⟨rfl, k3⟩; replace k3 := k2.trans k3)
          | (go_at_call 7; refine (lives_any _).mono ?_; rintro e w4 ⟨rfl, k4⟩))
        go_ret
        exact ⟨rfl, k3.trans k4⟩
      | true =>
        rw [c1] at H1
        rw [c2] at H2
        rw [c3] at H3
        have hsl := light_short c1
        have hsa := light_short c2
        have hsb := light_short c3
        have hL := Lib.hid (hl'.out.light c1)
        have hA := Lib.hid (ha'.out.light c2)
        have hB := Lib.hid (hb'.out.light c3)
        have l60 : n ≤ 60 := by have := hn'.out; unfold LightS at c1; simp only [Bool.and_eq_true, decide_eq_true_eq] at c1; omega
        have a60 : na ≤ 60 := by have := hna'.out; unfold LightS at c2; simp only [Bool.and_eq_true, decide_eq_true_eq] at c2; omega
        have b60 : nb ≤ 60 := by have := hnb'.out; unfold LightS at c3; simp only [Bool.and_eq_true, decide_eq_true_eq] at c3; omega
        clear c1 c2 c3
        exact main p pa pb n na nb c ca cb L A B i j w hL hA hB hn' hna' hnb' l60 a60 b60 (Lib.hid fun e => zl _ c (by rw [e])) (Lib.hid fun e => za _ ca (by rw [e])) (Lib.hid fun e => zb _ cb (by rw [e])) (Lib.hid hsl.1) (Lib.hid hsa.1) (Lib.hid hsb.1) hi hj H1 H2 H3
/-! The row's step. -/
set_option maxRecDepth 100000 in
set_option maxHeartbeats 1000000 in
theorem lifted (os : Os) (started : os.Started) (H : Type) (enc : TypeId × Value → H) :
    ReturnsInHanded {} Try.checked os 4 .any (Rows.orderOwnSpec.pre6 enc Try.prog Try.f4 Rows.orderOwnRow.domain false)
      (Rows.orderOwnSpec.post enc Try.prog Try.f4 false true false false) := by
  refine returnsInHanded_of_change (C := Try.checked) own started (by kernel_rfl) Try.func4
    (ChangeSpec.witness6 (enc := enc) (C := Try.checked) false ⟨#[], #[.slice none 0 0, .slice none 0 0, .slice none 0 0, .int .i64 0, .int .i64 0], []⟩ 8 (by kernel_rfl) (by kernel_rfl) (by kernel_rfl) (by kernel_rfl)) ?_
  intro W base args ds gs before hval0 hW _ _
  have hval : ∀ (j : Nat) t v, Try.f4.params[j]? = some t → args[j]? = some v → Value.okWide Try.prog W .any base t v := hval0
  have hW' := hW
  obtain ⟨p, q, hA0, hV, rfl, hfz, hnd⟩ := hW
  have hA1 : DataW.TrodAll enc Try.prog W 0 (fun _ => true) true Try.f4.params.toList args.toList ds p := hA0
  have hA := hA1
  rw [Try.params4] at hA hval
  obtain ⟨v0, vs0, d0, ds0, p0, q0, hargs0, rfl, -, h0, r0⟩ := trodAll_cons hA
  obtain ⟨v1, vs1, d1, ds1, p1, q1, hargs1, rfl, -, h1, r1⟩ := trodAll_cons r0
  obtain ⟨v2, vs2, d2, ds2, p2, q2, hargs2, rfl, -, h2, r2⟩ := trodAll_cons r1
  obtain ⟨v3, vs3, d3, ds3, p3, q3, hargs3, rfl, -, h3, r3⟩ := trodAll_cons r2
  obtain ⟨v4, vs4, d4, ds4, p4, q4, hargs4, rfl, -, h4, r4⟩ := trodAll_cons r3
  obtain ⟨rfl, rfl, -⟩ := trodAll_nil r4
  obtain rfl : args = #[v0, v1, v2, v3, v4] := by cases args; simp_all
  obtain ⟨rfl, rfl⟩ := trodVars_none hV
  obtain ⟨l0, hO0, hln0, hpr0, hnz0⟩ := open_ops (hval 0 22 v0 rfl rfl) h0
  obtain ⟨l1, hO1, hln1, hpr1, hnz1⟩ := open_ops (hval 1 22 v1 rfl rfl) h1
  obtain ⟨l2, hO2, hln2, hpr2, hnz2⟩ := open_ops (hval 2 22 v2 rfl rfl) h2
  obtain ⟨n3, rfl, -, -, w3⟩ := open_int Try.underlying3 (hval 3 3 v3 rfl rfl) h3
  obtain ⟨n4, rfl, -, -, w4⟩ := open_int Try.underlying3 (hval 4 3 v4 rfl rfl) h4
  clear hval0
  simp only [List.append_nil] at hW'
  refine (walk v0 l0 v1 l1 v2 l2 n3 n4 hln0 hnz0 hln1 hnz1 hln2 hnz2 (i64_of w3) (i64_of w4) W (Lib.hid hO0) (Lib.hid hO1) (Lib.hid hO2)).mono fun e W' ⟨he, hg⟩ => ?_
  subst he
  exact ⟨_, rfl, post_of_nb (pa := p) (pv := []) hW' (fun _ _ _ => (trodAll_cons_mk (shut_bool Try.underlying4 _) trodAll_mk0))
    (fun sp hsp => args_stay (by kernel_rfl) hg hA1 (fun t ht => by
      have h0 : (Try.f4.params.toList.all fun t => Try.prog.readableRec t && decide (t < Try.prog.types.size)) = true := by kernel_rfl
      have h1 := List.all_eq_true.1 h0 t ht
      rw [Bool.and_eq_true, decide_eq_true_eq] at h1
      exact h1) (fun x hx => hW'.lt x hx) hsp)
    (fun _ _ => rfl) (by simp) hg (ok_one (by kernel_rfl) rfl (okWide_bool_mk Try.underlying4 _))⟩
theorem over : Rows.orderOwnRow.holds Try.pinned (OpenSpec.ofChange Rows.orderOwnSpec) :=
  OpenClaim.holds_of_wide 4 Try.f4 rfl rfl rfl rfl rfl rfl rfl ⟨rfl, rfl, rfl, rfl, rfl⟩ rfl rfl rfl rfl rfl (by kernel_rfl) Try.func4 (by kernel_rfl)
    (of_decide_eq_true (by kernel_rfl)) (by unfold Func.isWrapper; first | (rw [if_pos (by decide +kernel)]; kernel_rfl) | (rw [if_neg (by decide +kernel)]; exact ⟨rfl, rfl⟩))
    (fun os started H enc _ => lifted os started H enc)
/-- The statement. -/
theorem proved : Rows.OrderOwnSaid := over
#print axioms proved
end Go.Proofs.Ytpnafbcekihoeaa.orderOwn
