/-
  Proved here: of lex: Name, between, nameEnd, number. Conditions: the slice holds the source. ¦ of the code: whether an expression's head may be. Conditions: none.
-/
import Derived.Test.YtebcjocpmnapeaaGreatDoorSbd
import Derived.Test.YtebcjocpmnapeaaGreatDoorSaa
import Derived.Deep.Slices
import Derived.WalkMore
section
namespace Go.Proofs.YtebcjocpmnapeaaGreatDoor
open Go.RowKit
set_option linter.unusedVariables false
set_option linter.unusedSimpArgs false
set_option maxRecDepth 100000
set_option maxHeartbeats 2000000
theorem allN_drop (l : Bs) (k : Nat) (hk : k < l.length) (f : Bool) : allN (l.drop k) f = (namI (bI l[k]) f && allN (l.drop (k + 1)) false) := by
  rw [List.drop_eq_getElem_cons hk]; rfl
theorem name_any (l : Bs) (hl : l.length ≤ 9223372036854775807) (w : World) : Calls Tryz.prog 52 #[.string ⟨l.toArray⟩] w fun e w' => e = .returned (.bool (nameS l)) ∧ w = w' := by
  have hA := Lib.hid hl
  obtain ⟨N, hN⟩ : ∃ N, nameS l = N := ⟨_, rfl⟩
  rw [hN]
  unfold nameS at hN
  have hkw := Lib.hid (kw_any l)
  by_cases h1 : l.length < 1
  · have e : N = false := by rw [← hN]; simp; omega
    subst e
    clear hN hkw
    go_enter Tryz.func52, Tryz.ntmps52
    go_wp2_with fail
    go_ret
    first | exact ⟨rfl, rfl⟩ | exact ⟨trivial, rfl⟩
  · by_cases h2 : 32 < l.length
    · have e : N = false := by rw [← hN]; simp; omega
      subst e
      clear hN hkw
      go_enter Tryz.func52, Tryz.ntmps52
      go_wp2_with fail
      go_ret
      first | exact ⟨rfl, rfl⟩ | exact ⟨trivial, rfl⟩
    · cases h3 : kwS l with
      | true =>
        have e : N = false := by rw [← hN, h3]; simp
        subst e
        clear hN
        rw [h3] at hkw
        go_enter Tryz.func52, Tryz.ntmps52
        go_wp2_with (go_at_call 71; refine (hkw.out _).mono ?_; rintro e w1 ⟨rfl, rfl⟩)
        go_ret
        first | exact ⟨rfl, rfl⟩ | exact ⟨trivial, rfl⟩
      | false =>
        have e : allN l true = N := by
          rw [h3] at hN
          simp at hN
          rw [← hN]
          have : 1 ≤ l.length := by omega
          have : l.length ≤ 32 := by omega
          simp [*]
        clear hN
        rw [h3] at hkw
        have he := Lib.hid e
        clear e
        go_enter Tryz.func52, Tryz.ntmps52
        go_upto_region 3 with (go_at_call 71; refine (hkw.out _).mono ?_; rintro e w1 ⟨rfl, rfl⟩)
        go_wp2_with fail
        go_loopw [18] (fun i wr => ∃ k : Nat, k ≤ l.length ∧ i = .int .i64 k ∧ w = wr ∧ Hid (allN (l.drop k) ((k : Int) == 0) = N)) (fun i _ => l.length - (intOf i).toNat)
        case atStart => exact ⟨0, Nat.zero_le _, rfl, rfl, he⟩
        case round =>
          obtain ⟨k, hk, rfl, rfl, hq⟩ := hrel
          by_cases hlt : k < l.length
          · have hx : ∀ p, ((⟨l.toArray⟩ : ByteArray)[k]'p).toNat = (l[k]).toNat := fun _ => rfl
            have hd := hq.out
            rw [allN_drop l k hlt ((k : Int) == 0)] at hd
            have hlt2 : (k : Int) < (l.length : Int) := by omega
            have hnm := named_any (bI l[k]) ((k : Int) == 0) w
            cases hv : namI (bI l[k]) ((k : Int) == 0) with
            | false =>
              rw [hv] at hd hnm
              have hN : N = false := by rw [← hd]; rfl
              subst hN
              have hnm := Lib.hid hnm
              clear hd hv hq
              go_wp2_with (go_at_call 72; refine (hnm.out).mono ?_; rintro e w1 ⟨rfl, rfl⟩)
              go_ret
              first | exact ⟨rfl, rfl⟩ | exact ⟨trivial, rfl⟩
            | true =>
              rw [hv] at hd hnm
              have hz : (((k + 1 : Nat) : Int) == 0) = false := by simp; omega
              have hN := Lib.hid (show allN (l.drop (k + 1)) (((k + 1 : Nat) : Int) == 0) = N by rw [hz]; exact hd)
              have hnm := Lib.hid hnm
              clear hd hv hq hz
              go_wp2_with (go_at_call 72; refine (hnm.out).mono ?_; rintro e w1 ⟨rfl, rfl⟩)
              exact ⟨⟨k + 1, by omega, (by first | rfl | trivial), (by first | rfl | trivial), hN⟩, by simp [intOf] <;> omega⟩
          · obtain rfl : k = l.length := by omega
            have hN : N = true := by rw [← hq.out, List.drop_length]; rfl
            subst hN
            clear hq
            go_wp2_with fail
            go_ret
            first | exact ⟨rfl, rfl⟩ | exact ⟨trivial, rfl⟩
/-- A slice's bytes. -/
def SrcB (w : World) (A : Option Addr) (xs : Bs) : Prop := 0 < xs.length → ∃ ad : Addr, A = some ad ∧ ∀ (j : Nat) (c : UInt8), xs[j]? = some c → w.cell? (ad.add j) = some (.int .u8 (bI c))
theorem SrcB.cell {w : World} {A : Option Addr} {xs : Bs} (h : SrcB w A xs) (k : Nat) (hk : k < xs.length) : ∃ ad : Addr, A = some ad ∧ w.cell? (ad.add k) = some (.int .u8 (bI xs[k])) := by
  obtain ⟨ad, hA, hc⟩ := h (by omega)
  exact ⟨ad, hA, hc k _ (List.getElem?_eq_getElem hk)⟩
theorem SrcB.nb {w w' : World} {A : Option Addr} {xs : Bs} (h : SrcB w A xs) (k : Nb w w') : SrcB w' A xs := by
  intro h0
  obtain ⟨ad, hA, hc⟩ := h h0
  exact ⟨ad, hA, fun j c hj => k.cell (hc j c hj)⟩
theorem dgN_drop (l : Bs) (k : Nat) (hk : k < l.length) : dgN (l.drop k) = if digI (bI l[k]) = true then dgN (l.drop (k + 1)) + 1 else 0 := by
  rw [List.drop_eq_getElem_cons hk]; rfl
end Go.Proofs.YtebcjocpmnapeaaGreatDoor
end
section
namespace Go.Proofs.YtebcjocpmnapeaaGreatDoor
open Go.RowKit
set_option linter.unusedVariables false
set_option linter.unusedSimpArgs false
set_option maxRecDepth 100000
set_option maxHeartbeats 4000000
attribute [-go_sem] run_eql_struct
theorem name_all (l : Bs) (w : World) : Calls Tryz.prog 52 #[.string ⟨l.toArray⟩] w fun e w' => e = .returned (.bool (nameS l)) ∧ w = w' := by
  by_cases h2 : 32 < l.length
  · have e : nameS l = false := by unfold nameS; simp; omega
    rw [e]
    clear e
    go_enter Tryz.func52, Tryz.ntmps52
    go_wp2_with fail
    go_ret
    first | exact ⟨rfl, rfl⟩ | exact ⟨trivial, rfl⟩
  · exact name_any l (by omega) w
theorem within_any (n a b : Int) (w : World) : Calls Tryz.prog 50 #[.int .i64 n, .int .i64 a, .int .i64 b] w fun r w' => r = .returned (.bool (inI n a b)) ∧ w = w' := by
  go_enter Tryz.func50, Tryz.ntmps50
  unfold inI
  by_cases h1 : a ≤ n
  · go_wp2_with fail
    go_ret
    exact ⟨by simp [h1], rfl⟩
  · go_wp2_with fail
    go_ret
    exact ⟨by rw [decide_eq_false (show ¬ a ≤ n by omega)]; rfl, rfl⟩
theorem reckons_any (t : Bs) (w : World) : Calls Tryz.prog 73 #[sV t] w fun r w' => r = .returned (.bool (recS t)) ∧ w = w' := by
  cases e : recS t with
  | true =>
    simp only [recS, Bool.or_eq_true, beq_iff_eq] at e
    rcases e with (((rfl | rfl) | rfl) | rfl) | rfl <;>
    · go_enter Tryz.func73, Tryz.ntmps73
      repeat (first | (with_reducible first | refine then_exit ?_ | refine in_same ?_ | refine then_ret ?_ | refine in_ret ?_) | ((with_reducible refine in_other ?_ ?_); decide) | go_values | go_skip | go_guarded | go_step | go_upon | go_back)
      go_ret
      exact ⟨rfl, rfl⟩
  | false =>
    simp only [recS, Bool.or_eq_false_iff] at e
    obtain ⟨⟨⟨⟨h0, h1⟩, h2⟩, h3⟩, h4⟩ := e
    go_enter Tryz.func73, Tryz.ntmps73
    repeat (first | (with_reducible first | refine then_exit ?_ | refine in_same ?_ | refine then_ret ?_ | refine in_ret ?_) | ((with_reducible refine in_other ?_ ?_); decide) | go_values | go_skip | go_guarded | go_step | go_upon | go_back)
    go_ret
    exact ⟨rfl, rfl⟩
theorem calls_any (h : Hd) (t : Bs) (w : World) : Calls Tryz.prog 51 #[.agg h.cells, sV t] w fun r w' => r = .returned (.bool (callS h t)) ∧ Nb w w' := by
  obtain ⟨s, k, nm, ac, n, lt, a6, a7, a8, a9, a10, a11⟩ := h
  simp only [Hd.cells, callS]
  have hn := Lib.hid (name_all t)
  go_enter Tryz.func51, Tryz.ntmps51
  cases h1 : nameS t with
  | false =>
    rw [h1] at hn
    go_wp2_with fail
    refine (hn.out _).mono ?_
    rintro r w1 ⟨rfl, rfl⟩
    go_wp2_with fail
    go_ret
    exact ⟨rfl, (Nb.refl w).alloc _⟩
  | true =>
    rw [h1] at hn
    go_wp2_with fail
    refine (hn.out _).mono ?_
    rintro r w1 ⟨rfl, rfl⟩
    go_wp2_with fail
    go_ret
    exact ⟨rfl, (Nb.refl w).alloc _⟩
theorem nb_two (w : World) (o o' : Obj) : Nb w ((w.alloc o).alloc o') := ((Nb.refl w).alloc _).alloc _
theorem reck4 (h : Hd) (hk : h.kind = 4) (w : World) : Calls Tryz.prog 55 #[.agg h.cells] w fun r w' => r = .returned (.bool (reckS h)) ∧ Nb w w' := by
  have he := eq_head h ⟨h.sort, h.kind, [], [], 0, false, 0, 0, 0, 0, 0, 0⟩
  have hs : reckS h = (true && eqH h ⟨h.sort, h.kind, [], [], 0, false, 0, 0, 0, 0, 0, 0⟩) := by unfold reckS; simp [hk]
  generalize eqH h ⟨h.sort, h.kind, [], [], 0, false, 0, 0, 0, 0, 0, 0⟩ = R at *
  rw [hs]
  clear hs
  obtain ⟨s, k, nm, ac, n, lt, a6, a7, a8, a9, a10, a11⟩ := h
  simp only [Hd.cells] at *
  subst hk
  replace he : ∀ W, (binOp .eql 45 (.agg #[.int .i64 s, .int .i64 4, sV nm, sV ac, .int .i64 n, .bool lt, nV a6, nV a7, nV a8, nV a9, nV a10, nV a11]) (.agg #[.int .i64 s, .int .i64 4, .string ⟨#[]⟩, .string ⟨#[]⟩, .int .i64 0, .bool false, .int .i64 0, .int .i64 0, .int .i64 0, .int .i64 0, .int .i64 0, .int .i64 0])).run Tryz.prog W = .ok (.bool R) W := he
  go_enter Tryz.func55, Tryz.ntmps55
  go_wp2_with fail
  go_ret
  exact ⟨rfl, nb_two w _ _⟩
theorem reck1 (h : Hd) (hk : h.kind = 1) (w : World) : Calls Tryz.prog 55 #[.agg h.cells] w fun r w' => r = .returned (.bool (reckS h)) ∧ Nb w w' := by
  have he := eq_head h ⟨h.sort, h.kind, [], [], h.n, false, 0, 0, 0, 0, 0, 0⟩
  have hs : reckS h = (inI h.n 0 2305843009213693951 && eqH h ⟨h.sort, h.kind, [], [], h.n, false, 0, 0, 0, 0, 0, 0⟩) := by unfold reckS; simp [hk]
  generalize eqH h ⟨h.sort, h.kind, [], [], h.n, false, 0, 0, 0, 0, 0, 0⟩ = R at *
  have hf := Lib.hid (within_any h.n 0 2305843009213693951)
  generalize inI h.n 0 2305843009213693951 = F at *
  rw [hs]
  clear hs
  obtain ⟨s, k, nm, ac, n, lt, a6, a7, a8, a9, a10, a11⟩ := h
  simp only [Hd.cells] at *
  subst hk
  replace he : ∀ W, (binOp .eql 45 (.agg #[.int .i64 s, .int .i64 1, sV nm, sV ac, .int .i64 n, .bool lt, nV a6, nV a7, nV a8, nV a9, nV a10, nV a11]) (.agg #[.int .i64 s, .int .i64 1, .string ⟨#[]⟩, .string ⟨#[]⟩, .int .i64 n, .bool false, .int .i64 0, .int .i64 0, .int .i64 0, .int .i64 0, .int .i64 0, .int .i64 0])).run Tryz.prog W = .ok (.bool R) W := he
  cases F
  all_goals
    go_enter Tryz.func55, Tryz.ntmps55
    go_wp2_with (go_at_call 50; refine (hf.out _).mono ?_; rintro r w3 ⟨rfl, rfl⟩)
    go_ret
    exact ⟨rfl, nb_two w _ _⟩
theorem reck2 (h : Hd) (hk : h.kind = 2) (w : World) : Calls Tryz.prog 55 #[.agg h.cells] w fun r w' => r = .returned (.bool (reckS h)) ∧ Nb w w' := by
  have he := eq_head h ⟨h.sort, h.kind, h.name, [], 0, false, 0, 0, 0, 0, 0, 0⟩
  have hs : reckS h = (nameS h.name && eqH h ⟨h.sort, h.kind, h.name, [], 0, false, 0, 0, 0, 0, 0, 0⟩) := by unfold reckS; simp [hk]
  generalize eqH h ⟨h.sort, h.kind, h.name, [], 0, false, 0, 0, 0, 0, 0, 0⟩ = R at *
  have hf := Lib.hid (name_all h.name)
  generalize nameS h.name = F at *
  rw [hs]
  clear hs
  obtain ⟨s, k, nm, ac, n, lt, a6, a7, a8, a9, a10, a11⟩ := h
  simp only [Hd.cells] at *
  subst hk
  replace he : ∀ W, (binOp .eql 45 (.agg #[.int .i64 s, .int .i64 2, sV nm, sV ac, .int .i64 n, .bool lt, nV a6, nV a7, nV a8, nV a9, nV a10, nV a11]) (.agg #[.int .i64 s, .int .i64 2, sV nm, .string ⟨#[]⟩, .int .i64 0, .bool false, .int .i64 0, .int .i64 0, .int .i64 0, .int .i64 0, .int .i64 0, .int .i64 0])).run Tryz.prog W = .ok (.bool R) W := he
  cases F
  all_goals
    go_enter Tryz.func55, Tryz.ntmps55
    go_wp2_with (go_at_call 52; refine (hf.out _).mono ?_; rintro r w3 ⟨rfl, rfl⟩)
    go_ret
    exact ⟨rfl, nb_two w _ _⟩
theorem reck3 (h : Hd) (hk : h.kind = 3) (w : World) : Calls Tryz.prog 55 #[.agg h.cells] w fun r w' => r = .returned (.bool (reckS h)) ∧ Nb w w' := by
  have he := eq_head h ⟨h.sort, h.kind, h.name, [], 0, false, 0, 0, 0, 0, 0, 0⟩
  have hs : reckS h = (nameS h.name && eqH h ⟨h.sort, h.kind, h.name, [], 0, false, 0, 0, 0, 0, 0, 0⟩) := by unfold reckS; simp [hk]
  generalize eqH h ⟨h.sort, h.kind, h.name, [], 0, false, 0, 0, 0, 0, 0, 0⟩ = R at *
  have hf := Lib.hid (name_all h.name)
  generalize nameS h.name = F at *
  rw [hs]
  clear hs
  obtain ⟨s, k, nm, ac, n, lt, a6, a7, a8, a9, a10, a11⟩ := h
  simp only [Hd.cells] at *
  subst hk
  replace he : ∀ W, (binOp .eql 45 (.agg #[.int .i64 s, .int .i64 3, sV nm, sV ac, .int .i64 n, .bool lt, nV a6, nV a7, nV a8, nV a9, nV a10, nV a11]) (.agg #[.int .i64 s, .int .i64 3, sV nm, .string ⟨#[]⟩, .int .i64 0, .bool false, .int .i64 0, .int .i64 0, .int .i64 0, .int .i64 0, .int .i64 0, .int .i64 0])).run Tryz.prog W = .ok (.bool R) W := he
  cases F
  all_goals
    go_enter Tryz.func55, Tryz.ntmps55
    go_wp2_with (go_at_call 52; refine (hf.out _).mono ?_; rintro r w3 ⟨rfl, rfl⟩)
    go_ret
    exact ⟨rfl, nb_two w _ _⟩
theorem reck5 (h : Hd) (hk : h.kind = 5) (w : World) : Calls Tryz.prog 55 #[.agg h.cells] w fun r w' => r = .returned (.bool (reckS h)) ∧ Nb w w' := by
  have he := eq_head h ⟨h.sort, h.kind, [], [], 0, false, 0, 0, 0, h.args, 0, 0⟩
  have hs : reckS h = (inI h.args 1 4 && eqH h ⟨h.sort, h.kind, [], [], 0, false, 0, 0, 0, h.args, 0, 0⟩) := by unfold reckS; simp [hk]
  generalize eqH h ⟨h.sort, h.kind, [], [], 0, false, 0, 0, 0, h.args, 0, 0⟩ = R at *
  have hf := Lib.hid (within_any h.args 1 4)
  generalize inI h.args 1 4 = F at *
  rw [hs]
  clear hs
  obtain ⟨s, k, nm, ac, n, lt, a6, a7, a8, a9, a10, a11⟩ := h
  simp only [Hd.cells] at *
  subst hk
  replace he : ∀ W, (binOp .eql 45 (.agg #[.int .i64 s, .int .i64 5, sV nm, sV ac, .int .i64 n, .bool lt, nV a6, nV a7, nV a8, nV a9, nV a10, nV a11]) (.agg #[.int .i64 s, .int .i64 5, .string ⟨#[]⟩, .string ⟨#[]⟩, .int .i64 0, .bool false, .int .i64 0, .int .i64 0, .int .i64 0, nV a9, .int .i64 0, .int .i64 0])).run Tryz.prog W = .ok (.bool R) W := he
  cases F
  all_goals
    go_enter Tryz.func55, Tryz.ntmps55
    go_wp2_with (go_at_call 50; refine (hf.out _).mono ?_; rintro r w3 ⟨rfl, rfl⟩)
    go_ret
    exact ⟨rfl, nb_two w _ _⟩
theorem reck6 (h : Hd) (hk : h.kind = 6) (w : World) : Calls Tryz.prog 55 #[.agg h.cells] w fun r w' => r = .returned (.bool (reckS h)) ∧ Nb w w' := by
  have he := eq_head h ⟨h.sort, h.kind, h.name, [], 0, false, 0, 0, 0, 2, 0, 0⟩
  have hs : reckS h = (recS h.name && eqH h ⟨h.sort, h.kind, h.name, [], 0, false, 0, 0, 0, 2, 0, 0⟩) := by unfold reckS; simp [hk]
  generalize eqH h ⟨h.sort, h.kind, h.name, [], 0, false, 0, 0, 0, 2, 0, 0⟩ = R at *
  have hf := Lib.hid (reckons_any h.name)
  generalize recS h.name = F at *
  rw [hs]
  clear hs
  obtain ⟨s, k, nm, ac, n, lt, a6, a7, a8, a9, a10, a11⟩ := h
  simp only [Hd.cells] at *
  subst hk
  replace he : ∀ W, (binOp .eql 45 (.agg #[.int .i64 s, .int .i64 6, sV nm, sV ac, .int .i64 n, .bool lt, nV a6, nV a7, nV a8, nV a9, nV a10, nV a11]) (.agg #[.int .i64 s, .int .i64 6, sV nm, .string ⟨#[]⟩, .int .i64 0, .bool false, .int .i64 0, .int .i64 0, .int .i64 0, .int .i64 2, .int .i64 0, .int .i64 0])).run Tryz.prog W = .ok (.bool R) W := he
  cases F
  all_goals
    go_enter Tryz.func55, Tryz.ntmps55
    go_wp2_with (go_at_call 73; refine (hf.out _).mono ?_; rintro r w3 ⟨rfl, rfl⟩)
    go_ret
    exact ⟨rfl, nb_two w _ _⟩
theorem reck0 (h : Hd) (h1 : ¬ h.kind = 1) (h2 : ¬ h.kind = 2) (h3 : ¬ h.kind = 3) (h4 : ¬ h.kind = 4) (h5 : ¬ h.kind = 5) (h6 : ¬ h.kind = 6) (w : World) : Calls Tryz.prog 55 #[.agg h.cells] w fun r w' => r = .returned (.bool (reckS h)) ∧ Nb w w' := by
  have hs : reckS h = false := by unfold reckS; simp [h1, h2, h3, h4, h5, h6]
  rw [hs]
  clear hs
  obtain ⟨s, k, nm, ac, n, lt, a6, a7, a8, a9, a10, a11⟩ := h
  simp only [Hd.cells] at *
  go_enter Tryz.func55, Tryz.ntmps55
  go_wp2_with fail
  go_ret
  exact ⟨rfl, nb_two w _ _⟩
theorem reck_any (h : Hd) (w : World) : Calls Tryz.prog 55 #[.agg h.cells] w fun r w' => r = .returned (.bool (reckS h)) ∧ Nb w w' := by
  by_cases h1 : h.kind = 1
  · exact reck1 h h1 w
  by_cases h2 : h.kind = 2
  · exact reck2 h h2 w
  by_cases h3 : h.kind = 3
  · exact reck3 h h3 w
  by_cases h4 : h.kind = 4
  · exact reck4 h h4 w
  by_cases h5 : h.kind = 5
  · exact reck5 h h5 w
  by_cases h6 : h.kind = 6
  · exact reck6 h h6 w
  exact reck0 h h1 h2 h3 h4 h5 h6 w
end Go.Proofs.YtebcjocpmnapeaaGreatDoor
end
