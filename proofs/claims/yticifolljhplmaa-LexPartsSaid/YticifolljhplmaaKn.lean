/-
  Proved here: of the reference: the word at a place, and Tokens. Conditions: the slice holds the source.
-/
import Derived.Test.YticifolljhplmaaKm
namespace Go.Proofs.Yticifolljhplmaa
open Go.ChangeShapes Go.WideShapes Go.ChangeAt Go.RowKit
set_option linter.unusedVariables false
set_option linter.unusedSimpArgs false
set_option maxRecDepth 100000
set_option maxHeartbeats 2000000
theorem ltr_apart {x : Int} (h : ltrI x = true) : ¬ x = 61 ∧ sigI x = false ∧ ¬ x = 39 ∧ digI x = false := by
  unfold ltrI at h
  unfold sigI digI
  simp at h ⊢
  omega
theorem dig_apart {x : Int} (h : digI x = true) : ¬ x = 61 ∧ sigI x = false ∧ ¬ x = 39 := by
  unfold digI at h
  unfold sigI
  simp at h ⊢
  omega
theorem ltr_nam {x : Int} (h : ltrI x = true) (f : Bool) : namI x f = true := by rw [nam_cases, h]; rfl
theorem nmN_let {c : UInt8} {r : Bs} (h : ltrI (bI c) = true) : nmN (c :: r) true = nmN (c :: r) false := by
  rw [nmN_cons, nmN_cons, if_pos (ltr_nam h _), if_pos (ltr_nam h _)]
theorem one_let {c : UInt8} {r : Bs} (h : ltrI (bI c) = true) : oneS (c :: r) = if 32 < nmN (c :: r) false then none else some (1, (c :: r).take (nmN (c :: r) false), 0, nmN (c :: r) false) := by
  obtain ⟨h1, h2, h3, h4⟩ := ltr_apart h
  have hw : waS (c :: r) = (1, (c :: r).take (nmN (c :: r) false), 0, nmN (c :: r) false) := by
    rw [wa_cons, if_neg h1, if_neg (by rw [h2]; simp), if_neg h3, if_neg (by rw [h4]; simp), if_pos (ltr_nam h _), nmN_let h]
  have hl := nmN_le (c :: r) false
  unfold oneS
  rw [hw]
  have hr : rightS (1, (c :: r).take (nmN (c :: r) false), 0, nmN (c :: r) false) = decide (nmN (c :: r) false ≤ 32) := by
    show decide (((c :: r).take (nmN (c :: r) false)).length ≤ 32) = _
    rw [List.length_take, Nat.min_eq_left hl]
  rw [hr]
  by_cases h5 : 32 < nmN (c :: r) false
  · rw [if_pos h5, if_neg (by simp; omega)]
  · rw [if_neg h5, if_pos (by simp; omega)]
theorem one_dig {c : UInt8} {r : Bs} (h : digI (bI c) = true) : oneS (c :: r) = if numV ((c :: r).take (dgN (c :: r))) 0 < 0 then none else some (2, (c :: r).take (dgN (c :: r)), numV ((c :: r).take (dgN (c :: r))) 0, dgN (c :: r)) := by
  obtain ⟨h1, h2, h3⟩ := dig_apart h
  have hw : waS (c :: r) = (2, (c :: r).take (dgN (c :: r)), numV ((c :: r).take (dgN (c :: r))) 0, dgN (c :: r)) := by
    rw [wa_cons, if_neg h1, if_neg (by rw [h2]; simp), if_neg h3, if_pos h]
  unfold oneS
  rw [hw]
  have hr : rightS (2, (c :: r).take (dgN (c :: r)), numV ((c :: r).take (dgN (c :: r))) 0, dgN (c :: r)) = decide (0 ≤ numV ((c :: r).take (dgN (c :: r))) 0) := rfl
  rw [hr]
  by_cases h5 : numV ((c :: r).take (dgN (c :: r))) 0 < 0
  · rw [if_pos h5, if_neg (by simp; omega)]
  · rw [if_neg h5, if_pos (by simp; omega)]
theorem name_take (r : Bs) : nameS (r.take (nmN r true)) = nameS (r.take (nmN r false)) ∧ (nameS (r.take (nmN r false)) = true → nmN r true = nmN r false) := by
  cases r with
  | nil => exact ⟨rfl, fun _ => rfl⟩
  | cons d r' =>
    by_cases hd : digI (bI d) = true
    · have e1 : nmN (d :: r') true = 0 := by rw [nmN_cons, if_neg (by unfold namI; rw [if_pos hd]; simp)]
      have e2 : nmN (d :: r') false = nmN r' false + 1 := by rw [nmN_cons, if_pos (by unfold namI; rw [if_pos hd]; rfl)]
      have e3 : nameS ((d :: r').take (nmN r' false + 1)) = false := by
        unfold nameS
        rw [List.take_succ_cons]
        have : allN (d :: r'.take (nmN r' false)) true = false := by
          show (namI (bI d) true && _) = false
          unfold namI
          rw [if_pos hd]
          rfl
        rw [this, Bool.and_false]
      rw [e1, e2, e3]
      exact ⟨rfl, fun h => nomatch h⟩
    · have e : nmN (d :: r') true = nmN (d :: r') false := by
        rw [nmN_cons, nmN_cons]
        unfold namI
        rw [if_neg hd, if_neg hd]
      rw [e]
      exact ⟨rfl, fun _ => rfl⟩
theorem one_atom {c : UInt8} {r : Bs} (h : bI c = 39) : oneS (c :: r) = if nameS (r.take (nmN r false)) = true then some (3, r.take (nmN r false), 0, nmN r false + 1) else none := by
  have hw : waS (c :: r) = (3, r.take (nmN r true), 0, nmN r true + 1) := by
    rw [wa_cons, if_neg (by omega), if_neg (by rw [h]; decide), if_pos h]
  unfold oneS
  rw [hw]
  have hr : rightS (3, r.take (nmN r true), 0, nmN r true + 1) = nameS (r.take (nmN r true)) := rfl
  obtain ⟨k1, k2⟩ := name_take r
  rw [hr, k1]
  by_cases h5 : nameS (r.take (nmN r false)) = true
  · rw [if_pos h5, if_pos h5, k2 h5]
  · rw [if_neg h5, if_neg h5]
theorem one_sign {c : UInt8} {r : Bs} (h0 : digI (bI c) = false) (h1 : ltrI (bI c) = false) (h2 : ¬ bI c = 39) : oneS (c :: r) = if sgS (c :: r) = 0 then none else some (4, (c :: r).take (sgS (c :: r)), 0, sgS (c :: r)) := by
  have e : sgS (c :: r) = if bI c = 61 ∧ r.head? = some 61 then 2 else if sgL.contains (bI c) = true then 1 else 0 := rfl
  by_cases h3 : bI c = 61
  · have hc : c = 61 := UInt8.toNat_inj.1 (by unfold bI at h3; show c.toNat = 61; omega)
    by_cases h4 : r.head? = some 61
    · have hw : waS (c :: r) = (4, [61, 61], 0, 2) := by rw [wa_cons, if_pos h3, if_pos h4]
      have he : sgS (c :: r) = 2 := by rw [e, if_pos ⟨h3, h4⟩]
      unfold oneS
      rw [hw, he]
      cases r with
      | nil => cases h4
      | cons d r' =>
        obtain rfl := Option.some.inj h4
        subst hc
        rfl
    · have hw : waS (c :: r) = (4, [c], 0, 1) := by rw [wa_cons, if_pos h3, if_neg h4]
      have he : sgS (c :: r) = 1 := by rw [e, if_neg (fun h => h4 h.2), h3]; rfl
      unfold oneS
      rw [hw, he]
      rfl
  · by_cases h4 : sigI (bI c) = true
    · have hw : waS (c :: r) = (4, [c], 0, 1) := by rw [wa_cons, if_neg h3, if_pos h4]
      have he : sgS (c :: r) = 1 := by rw [e, if_neg (fun h => h3 h.1), sgL_is, h4, Bool.or_true]; rfl
      unfold oneS
      rw [hw, he]
      rfl
    · have hw : waS (c :: r) = (0, [c], 0, 1) := by
        rw [wa_cons, if_neg h3, if_neg h4, if_neg h2, if_neg (by rw [h0]; simp), if_neg (by unfold namI; rw [if_neg (by rw [h0]; simp), h1]; simp)]
      have he : sgS (c :: r) = 0 := by
        have e5 : (bI c == 61 || sigI (bI c)) = false := by
          rw [Bool.or_eq_false_iff]
          exact ⟨by simpa using h3, by simpa using h4⟩
        rw [e, if_neg (fun h => h3 h.1), sgL_is, e5]
        rfl
      unfold oneS
      rw [hw, he]
      rfl
def OneAns (l : Bs) (p : Nat) (w : World) (e : Ending) (w' : World) : Prop := ∃ (kd : Int) (tx : Bs) (v : Int) (n : Nat), e = .returned (.tuple #[.agg (tkC kd p tx v), .int .i64 n]) ∧ Nb w w' ∧ oneS l = if n = 0 then none else some (kd, tx, v, n)
theorem rone_any (A : Option Addr) (cap : Nat) (xs : Bs) (at_ : Nat) (hx : xs.length ≤ 9223372036854775800) (hc : xs.length ≤ cap) (ha : at_ < xs.length) (w : World) (hS : SrcB w A xs) :
    Calls Try.prog 33 #[.slice A xs.length cap, .int .i64 at_] w (OneAns (xs.drop at_) at_ w) := by
  have hd := drop_cons xs at_ ha
  by_cases h1 : ltrI (bI xs[at_]) = true
  · have ho := one_let (r := xs.drop (at_ + 1)) h1
    rw [← hd] at ho
    have hk : 1 ≤ nmN (xs.drop at_) false := by rw [nmN_drop xs at_ ha, if_pos (ltr_nam h1 _)]; omega
    refine (rone_let A cap xs at_ hx hc ha h1 w hS).mono ?_
    rintro e w' ⟨rfl, n1⟩
    by_cases h2 : 32 < nmN (xs.drop at_) false
    · rw [if_pos h2] at ho ⊢
      exact ⟨_, _, _, 0, rfl, n1, by rw [ho]; rfl⟩
    · rw [if_neg h2] at ho ⊢
      exact ⟨_, _, _, _, rfl, n1, by rw [ho, if_neg (by omega)]⟩
  · have h1' : ltrI (bI xs[at_]) = false := by simpa using h1
    by_cases h2 : digI (bI xs[at_]) = true
    · have ho := one_dig (r := xs.drop (at_ + 1)) h2
      rw [← hd] at ho
      have hk : 1 ≤ dgN (xs.drop at_) := by rw [dgN_drop xs at_ ha, if_pos h2]; omega
      refine (rone_dig A cap xs at_ hx hc ha h2 w hS).mono ?_
      rintro e w' ⟨rfl, n1⟩
      by_cases h3 : numV ((xs.drop at_).take (dgN (xs.drop at_))) 0 < 0
      · rw [if_pos h3] at ho
        rw [if_pos h3, if_pos h3]
        exact ⟨_, _, _, 0, rfl, n1, by rw [ho]; rfl⟩
      · rw [if_neg h3] at ho
        rw [if_neg h3, if_neg h3]
        exact ⟨_, _, _, _, rfl, n1, by rw [ho, if_neg (by omega)]⟩
    · have h2' : digI (bI xs[at_]) = false := by simpa using h2
      by_cases h3 : bI xs[at_] = 39
      · have ho := one_atom (r := xs.drop (at_ + 1)) h3
        rw [← hd] at ho
        have key := fun hcap => rone_atom1 A cap xs at_ hx hc ha h3 hcap w hS
        have key2 := fun hcap => rone_atom2 A cap xs at_ hx hc ha h3 hcap w hS
        have kk := (if hcap : cap ≤ at_ + 1 then key hcap else key2 (by omega))
        refine kk.mono ?_
        rintro e w' ⟨rfl, n1⟩
        by_cases h4 : nameS ((xs.drop (at_ + 1)).take (nmN (xs.drop (at_ + 1)) false)) = true
        · rw [if_pos h4] at ho ⊢
          exact ⟨_, _, _, nmN (xs.drop (at_ + 1)) false + 1, rfl, n1, by rw [ho, if_neg (by omega)]⟩
        · rw [if_neg h4] at ho ⊢
          exact ⟨_, _, _, 0, rfl, n1, by rw [ho]; rfl⟩
      · have ho := one_sign (r := xs.drop (at_ + 1)) h2' h1' h3
        rw [← hd] at ho
        refine (rone_sign A cap xs at_ hx hc ha h2' h1' h3 w hS).mono ?_
        rintro e w' ⟨rfl, n1⟩
        exact ⟨_, _, _, _, rfl, n1, ho⟩
theorem step_none2 {xs : Bs} {k : Nat} (hk : k < xs.length) (h : oneS (xs.drop k) = none) : Wl (xs.drop k) k = .inl k := by
  rw [drop_cons xs k hk] at h ⊢
  exact Wl_none h
theorem step_some2 {xs : Bs} {k : Nat} (hk : k < xs.length) {kd : Int} {tx : Bs} {v : Int} {m : Nat} (h1 : oneS (xs.drop k) = some (kd, tx, v, m)) :
    1 ≤ m ∧ k + m ≤ xs.length ∧ Wl (xs.drop k) k = consT (kd, k, tx, v) (Wl (xs.drop (k + m + btw (xs.drop (k + m)) false)) (k + m + btw (xs.drop (k + m)) false)) := by
  obtain ⟨e1, e2⟩ := one_some h1
  exact step_some hk e1 e2
theorem rtokens_any (A : Option Addr) (cap : Nat) (xs : Bs) (hc : xs.length ≤ cap) (hx : xs.length ≤ 9223372036854775807) (w : World) (hS : SrcB w A xs) :
    Calls Try.prog 19 #[.slice A xs.length cap] w (TokAns xs w) := by
  have hS' := Lib.hid hS
  clear hS
  by_cases h1 : (65536 : Int) < (xs.length : Int)
  · have hT : TA xs = ([], 65536, false) := by unfold TA; rw [if_pos (by omega)]
    go_enter Try.func19, Try.ntmps19
    go_wp2_with fail
    go_ret3
    exact ta_err hT rfl (Nb.refl _)
  · obtain ⟨X, hX⟩ : ∃ X, TT xs 0 = X := ⟨_, rfl⟩
    have hTe := fun p (e : X = .inl p) => (show TA xs = ([], p, false) by unfold TA; rw [if_neg (by omega), hX, e])
    have hTo := fun ts (e : X = .inr ts) => (show TA xs = (ts ++ [endT xs], 0, true) by unfold TA; rw [if_neg (by omega), hX, e])
    have hq0 := btw_le xs false
    unfold TT at hX
    have hB := fun w1 (k : Nb w w1) (p : Nat) (hp : p ≤ xs.length) => skip_any A cap xs p (by omega) hp w1 (hS'.out.nb k)
    have hX' : appT [] (Wl (xs.drop (btw xs false)) (btw xs false)) = X := by
      rw [Nat.zero_add] at hX
      rw [hX]
      cases X <;> rfl
    have hX' := Lib.hid hX'
    have hB := Lib.hid hB
    have hTe := Lib.hid hTe
    have hTo := Lib.hid hTo
    have hx2 : xs.length ≤ 65536 := by omega
    clear hX hx
    obtain ⟨i0, hi, hz0, hz1, hz2⟩ := partsT
    go_enter Try.func19, Try.ntmps19
    have hB0 := hB.out _ (Nb.refl _) 0 (Nat.zero_le _)
    rw [List.drop_zero, Nat.zero_add] at hB0
    have hB0 := Lib.hid hB0
    go_wp2_with (go_at_call 32; refine (hB0.out).mono ?_; rintro e w1 ⟨rfl, rfl⟩)
    go_loopw [5, 6] (fun o f wr => ∃ (k : Nat) (acc : List Tk), k ≤ xs.length ∧ acc.length ≤ k ∧ f = .int .i64 k ∧ Hid (appT acc (Wl (xs.drop k) k) = X) ∧ wr.ownsRow w.heap.size 47 4 o acc.length (acc.flatMap tkL) ∧ Nb w wr) (fun _ f _ => xs.length - (intOf f).toNat)
    case atStart => exact ⟨btw xs false, [], by omega, Nat.zero_le _, rfl, hX', World.ownsRow_nil _ _ _ _, Nb.refl _⟩
    case round =>
      obtain ⟨k, acc, hk, ha, rfl, hR, hown, hN⟩ := hrel
      by_cases hlt : k < xs.length
      · have hlt2 : (k : Int) < (xs.length : Int) := by omega
        have hwd := Lib.hid (rone_any A cap xs k (by omega) hc hlt wr (hS'.out.nb hN))
        go_upto_region 7 with (go_at_call 33; refine (hwd.out).mono ?_; rintro e w1 ⟨kd, tx, v, m, rfl, n1, ho⟩)
        have ho := Lib.hid ho
        have hown1 := own_nbT hown n1
        obtain ⟨W2, hW⟩ : ∃ W2, w1.alloc (Obj.cells (tkC kd k tx v) 47) = W2 := ⟨_, rfl⟩
        have n12 : Nb w1 W2 := by rw [← hW]; exact (Nb.refl _).alloc _
        have n2 : Nb w W2 := (hN.trans n1).trans n12
        have hown2 := own_nbT hown1 n12
        have b2 : W2.heap[w1.heap.size]? = some (.cells (tkC kd k tx v) 47 (0, 0)) := by rw [← hW]; exact new_blk w1 _ rfl
        rw [hW]
        clear hW hown hown1 n12 n1
        obtain ⟨⟨c0, c1, c2, c3⟩, -⟩ := tk4 b2
        by_cases hm : m = 0
        · subst hm
          have hw0 := step_none2 hlt (by rw [ho.out]; rfl)
          have hR2 := hR.out
          rw [hw0] at hR2
          have hT := Lib.hid (hTe.out k hR2.symm)
          clear hR2 hw0 hR ho ha hk
          go_wp2_with fail
          go_ret3
          exact ta_err hT.out rfl n2
        · have ho2 : oneS (xs.drop k) = some (kd, tx, v, m) := by rw [ho.out, if_neg hm]
          obtain ⟨m1, km, hw0⟩ := step_some2 hlt ho2
          have hR2 := hR.out
          rw [hw0, app_cons] at hR2
          have hR2 := Lib.hid hR2
          have hkb := btw_le (xs.drop (k + m)) false
          rw [List.length_drop] at hkb
          clear hw0 hR ho2 ho
          have hm2 : ¬ (m : Int) = 0 := by omega
          go_upto_region 10 with (at_builtin; refine wpList_append_own _ rfl _ _ 37 rfl w.heap.size 47 i0 _ 4 40 Try.underlying37 hi hz0 hz1 hz2 rfl (by decide) _ _ _ rfl (hown2.alloc _) ⟨W2.heap.size, 0, none⟩ 1 1 (tkL (kd, k, tx, v)) rfl rfl ?c1 ?c2 ?c3 ?c4 ?c5 ?_)
          case c1 => exact newsT W2 (kd, k, tx, v)
          case c2 => exact one_cellT _
          case c3 => unfold maxLen; omega
          case c4 => omega
          case c5 => have := n2.size; simp; omega
          intro v' w6 hown' hgrow _
          have n5 := own_grownT n2 hown2 hgrow
          have hown6 : w6.ownsRow w.heap.size 47 4 v' (acc ++ [(kd, k, tx, v)]).length ((acc ++ [(kd, k, tx, v)]).flatMap tkL) := by
            rw [List.length_append, List.flatMap_append]
            simpa using hown'
          clear hown' hgrow hown2 n2 c0 c1 c2 c3 b2
          have hB1 := Lib.hid (hB.out _ n5 (k + m) km)
          go_wp2_with (go_at_call 32; refine (hB1.out).mono ?_; rintro e w7 ⟨rfl, rfl⟩)
          exact ⟨⟨k + m + btw (xs.drop (k + m)) false, acc ++ [(kd, k, tx, v)], by omega, by simp; omega, (by first | rfl | trivial), hR2, hown6, n5⟩, by simp [intOf] <;> omega⟩
      · obtain rfl : k = xs.length := by omega
        have hR2 := hR.out
        rw [List.drop_length, Wl_nil] at hR2
        have hT := Lib.hid (hTo.out acc (by rw [← hR2]; simp [appT]))
        clear hR2 hR
        go_wp2_with (at_builtin; refine wpList_append_own _ rfl _ _ 37 rfl w.heap.size 47 i0 _ 4 40 Try.underlying37 hi hz0 hz1 hz2 rfl (by decide) _ _ _ rfl (hown.alloc _) ⟨wr.heap.size, 0, none⟩ 1 1 (tkL (endT xs)) rfl rfl ?c1 ?c2 ?c3 ?c4 ?c5 ?_)
        case c1 => exact newsT wr (endT xs)
        case c2 => exact one_cellT _
        case c3 => unfold maxLen; omega
        case c4 => omega
        case c5 => have := hN.size; simp; omega
        intro v' w6 hown' hgrow _
        have n5 := own_grownT hN hown hgrow
        have hown6 : w6.ownsRow w.heap.size 47 4 v' (acc ++ [endT xs]).length ((acc ++ [endT xs]).flatMap tkL) := by
          rw [List.length_append, List.flatMap_append]
          simpa using hown'
        clear hown' hgrow
        go_wp2_with fail
        go_ret3
        exact ta_ok hT.out n5 hown6
end Go.Proofs.Yticifolljhplmaa
