/-
  Proved here: of the reference: letter, digit, word, Keyword, Name, run, skip, number. Conditions: the slice holds the source. ¦ of the reference: the text of several expressions. Conditions: the memory holds them.
-/
import Derived.Test.YtebcjocpmnapeaaGreatDoorSbe
import Derived.Test.YtebcjocpmnapeaaGreatDoorSbi
import Derived.Test.YtebcjocpmnapeaaGreatDoorSaa
import Derived.Test.YtebcjocpmnapeaaGreatDoorSam
section
namespace Go.Proofs.YtebcjocpmnapeaaGreatDoor
open Go.RowKit
set_option linter.unusedVariables false
set_option linter.unusedSimpArgs false
set_option maxRecDepth 100000
set_option maxHeartbeats 2000000
theorem rdigit_any (x : Int) (w : World) : Calls Tryz.prog 89 #[.int .u8 x] w fun e w' => e = .returned (.bool (digI x)) ∧ w = w' := by
  unfold digI
  by_cases h1 : 48 ≤ x
  · by_cases h2 : x ≤ 57
    · go_enter Tryz.func89, Tryz.ntmps89
      go_wp2
      go_ret
      exact ⟨by simp [h1, h2], rfl⟩
    · go_enter Tryz.func89, Tryz.ntmps89
      go_wp2
      go_ret
      exact ⟨by simp [h1]; omega, rfl⟩
  · go_enter Tryz.func89, Tryz.ntmps89
    go_wp2
    go_ret
    exact ⟨by simp; omega, rfl⟩
theorem rletter_any (x : Int) (w : World) : Calls Tryz.prog 88 #[.int .u8 x] w fun e w' => e = .returned (.bool (ltrI x)) ∧ w = w' := by
  have hq : (97 ≤ x ∧ x ≤ 122) ∨ (65 ≤ x ∧ x ≤ 90) ∨ x = 95 ∨ (x < 65) ∨ (90 < x ∧ x < 95) ∨ x = 96 ∨ 122 < x := by omega
  obtain ⟨N, hN⟩ : ∃ N, ltrI x = N := ⟨_, rfl⟩
  rw [hN]
  unfold ltrI at hN
  rcases hq with ⟨h1, h2⟩ | ⟨h1, h2⟩ | h1 | h1 | ⟨h1, h2⟩ | h1 | h1
  · obtain rfl : N = true := by rw [← hN]; simp; omega
    clear hN
    go_enter Tryz.func88, Tryz.ntmps88
    go_wp2
    go_ret
    exact ⟨by simp; try omega, rfl⟩
  · obtain rfl : N = true := by rw [← hN]; simp; omega
    clear hN
    have h3 : ¬ 97 ≤ x := by omega
    go_enter Tryz.func88, Tryz.ntmps88
    go_wp2
    go_ret
    exact ⟨by simp; try omega, rfl⟩
  · subst h1
    obtain rfl : N = true := by rw [← hN]; rfl
    clear hN
    go_enter Tryz.func88, Tryz.ntmps88
    go_wp2
    go_ret
    exact ⟨by simp, rfl⟩
  all_goals
    obtain rfl : N = false := by rw [← hN]; simp; omega
    clear hN
    go_enter Tryz.func88, Tryz.ntmps88
    go_wp2
    go_ret
    exact ⟨by simp; try omega, rfl⟩
theorem nam_cases (x : Int) (f : Bool) : namI x f = (ltrI x || (!f && digI x)) := by
  unfold namI
  cases hd : digI x with
  | true =>
    have : ltrI x = false := by
      cases h : ltrI x with
      | false => rfl
      | true => rw [ltr_nodig h] at hd; cases hd
    rw [this]; cases f <;> rfl
  | false => cases f <;> simp
theorem rword_any (l : Bs) (hl : l.length ≤ 9223372036854775807) (w : World) : Calls Tryz.prog 74 #[.string ⟨l.toArray⟩] w fun e w' => e = .returned (.bool (decide (1 ≤ l.length) && allN l true)) ∧ w = w' := by
  have hA := Lib.hid hl
  obtain ⟨N, hN⟩ : ∃ N, allN l true = N := ⟨_, rfl⟩
  rw [hN]
  have he := Lib.hid hN
  clear hN
  go_enter Tryz.func74, Tryz.ntmps74
  go_wp2_with fail
  go_loopw [3] (fun i wr => ∃ k : Nat, k ≤ l.length ∧ i = .int .i64 k ∧ w = wr ∧ Hid (allN (l.drop k) ((k : Int) == 0) = N)) (fun i _ => l.length - (intOf i).toNat)
  case atStart => exact ⟨0, Nat.zero_le _, rfl, rfl, he⟩
  case round =>
    obtain ⟨k, hk, rfl, rfl, hq⟩ := hrel
    by_cases hlt : k < l.length
    · have hx : ∀ p, ((⟨l.toArray⟩ : ByteArray)[k]'p).toNat = (l[k]).toNat := fun _ => rfl
      have hd := hq.out
      rw [allN_drop l k hlt ((k : Int) == 0), nam_cases] at hd
      have hlt2 : (k : Int) < (l.length : Int) := by omega
      have hl1 := rletter_any (bI l[k]) w
      have hd1 := rdigit_any (bI l[k]) w
      have hz : (((k + 1 : Nat) : Int) == 0) = false := by simp; omega
      have hlen : 1 ≤ l.length := by omega
      cases h1 : ltrI (bI l[k]) with
      | true =>
        rw [h1] at hd hl1
        have hN := Lib.hid (show allN (l.drop (k + 1)) (((k + 1 : Nat) : Int) == 0) = N by rw [hz]; simpa using hd)
        have hl1 := Lib.hid hl1
        clear hd hd1 hq hz h1
        go_wp2_with (go_at_call 88; refine (hl1.out).mono ?_; rintro e w1 ⟨rfl, rfl⟩)
        exact ⟨⟨k + 1, by omega, (by first | rfl | trivial), (by first | rfl | trivial), hN⟩, by simp [intOf] <;> omega⟩
      | false =>
        rw [h1] at hd hl1
        by_cases hk0 : (k : Int) = 0
        · have hN : N = false := by rw [← hd, show ((k : Int) == 0) = true by rw [hk0]; rfl]; rfl
          subst hN
          have hl1 := Lib.hid hl1
          have hk1 : ((k : Int) == 0) = true := by rw [hk0]; rfl
          clear hk0 hd hd1 hq hz h1
          go_wp2_with (go_at_call 88; refine (hl1.out).mono ?_; rintro e w1 ⟨rfl, rfl⟩)
          go_ret
          exact ⟨by simp, rfl⟩
        · have hk1 : ((k : Int) == 0) = false := by simpa using hk0
          rw [hk1] at hd
          cases h2 : digI (bI l[k]) with
          | true =>
            rw [h2] at hd hd1
            have hN := Lib.hid (show allN (l.drop (k + 1)) (((k + 1 : Nat) : Int) == 0) = N by rw [hz]; simpa using hd)
            have hl1 := Lib.hid hl1
            have hd1 := Lib.hid hd1
            clear hd hq hz h1 h2
            go_wp2_with (first | (go_at_call 88; refine (hl1.out).mono ?_; rintro e w1 ⟨rfl, rfl⟩) | (go_at_call 89; refine (hd1.out).mono ?_; rintro e w1 ⟨rfl, rfl⟩))
            exact ⟨⟨k + 1, by omega, (by first | rfl | trivial), (by first | rfl | trivial), hN⟩, by simp [intOf] <;> omega⟩
          | false =>
            rw [h2] at hd hd1
            have hN : N = false := by rw [← hd]; rfl
            subst hN
            have hl1 := Lib.hid hl1
            have hd1 := Lib.hid hd1
            clear hd hq hz h1 h2
            go_wp2_with (first | (go_at_call 88; refine (hl1.out).mono ?_; rintro e w1 ⟨rfl, rfl⟩) | (go_at_call 89; refine (hd1.out).mono ?_; rintro e w1 ⟨rfl, rfl⟩))
            go_ret
            exact ⟨by simp, rfl⟩
    · obtain rfl : k = l.length := by omega
      have hN : N = true := by rw [← hq.out, List.drop_length]; rfl
      subst hN
      clear hq
      cases l with
      | nil =>
        go_wp2_with fail
        go_ret
        exact ⟨by simp, rfl⟩
      | cons c r =>
        have hne : ((c :: r : Bs) == []) = false := rfl
        go_wp2_with fail
        go_ret
        exact ⟨by simp, rfl⟩
theorem kw_row : #[.string ⟨#[97, 99, 116, 111, 114]⟩, .string ⟨#[109, 97, 105, 110]⟩, .string ⟨#[108, 101, 116]⟩, .string ⟨#[115, 112, 97, 119, 110]⟩, .string ⟨#[115, 101, 110, 100]⟩, .string ⟨#[111, 117, 116]⟩, .string ⟨#[98, 101, 99, 111, 109, 101]⟩, .string ⟨#[115, 116, 111, 112]⟩, .string ⟨#[105, 102]⟩, .string ⟨#[101, 108, 115, 101]⟩, .string ⟨#[114, 101, 99, 101, 105, 118, 101]⟩, .string ⟨#[119, 104, 101, 110]⟩, .string ⟨#[97, 102, 116, 101, 114]⟩, .string ⟨#[115, 101, 108, 102]⟩, .string ⟨#[95]⟩] = (kwL.map fun t => Value.string ⟨t.toArray⟩).toArray := rfl
theorem rkw_any (l : Bs) (w : World) : Calls Tryz.prog 75 #[.string ⟨l.toArray⟩] w fun e w' => e = .returned (.bool (kwS l)) ∧ Nb w w' := by
  obtain ⟨N, hN⟩ : ∃ N, kwS l = N := ⟨_, rfl⟩
  rw [hN]
  have he := Lib.hid (show (kwL.drop 0).contains l = N from hN)
  clear hN
  go_enter Tryz.func75, Tryz.ntmps75
  go_upto_region 2 with (fail)
  rw [kw_row]
  obtain ⟨W1, hW⟩ : ∃ W1, w.alloc (Obj.cells (kwL.map fun t => Value.string ⟨t.toArray⟩).toArray 9) = W1 := ⟨_, rfl⟩
  have n1 : Nb w W1 := by rw [← hW]; exact (Nb.refl _).alloc _
  have b1 : W1.heap[w.heap.size]? = some (.cells (kwL.map fun t => Value.string ⟨t.toArray⟩).toArray 9 (0, 0)) := by rw [← hW]; exact new_blk w _ rfl
  have hcl : Hid (∀ k (h : k < kwL.length), W1.cell? ⟨w.heap.size, k, none⟩ = some (.string ⟨(kwL[k]).toArray⟩)) := Lib.hid fun k h => cell_of_row _ _ k _ _ _ b1 |>.trans (by simp [h])
  rw [hW]
  clear hW b1
  go_wp2_with fail
  go_loopw [4] (fun i wr => ∃ k : Nat, k ≤ 15 ∧ i = .int .i64 k ∧ W1 = wr ∧ Hid ((kwL.drop k).contains l = N)) (fun i _ => 15 - (intOf i).toNat)
  case atStart => exact ⟨0, Nat.zero_le _, rfl, rfl, he⟩
  case round =>
    obtain ⟨k, hk, rfl, rfl, hq⟩ := hrel
    by_cases hlt : k < kwL.length
    · have c0 := hcl.out k hlt
      have hd := hq.out
      rw [List.drop_eq_getElem_cons hlt, List.contains_cons] at hd
      have hlt2 : (k : Int) < 15 := by have : kwL.length = 15 := rfl; omega
      have hlt3 : k < 15 := by have : kwL.length = 15 := rfl; omega
      generalize kwL[k] = t at *
      cases ht : (t == l) with
      | true =>
        have hN : N = true := by rw [← hd, beq_iff_eq.1 ht]; simp
        subst hN
        clear hd hq hlt
        go_wp2_with fail
        go_ret
        exact ⟨rfl, n1⟩
      | false =>
        have hN := Lib.hid (show (kwL.drop (k + 1)).contains l = N by
          have ht' : (l == t) = false := by rw [BEq.comm]; exact ht
          rw [ht'] at hd; simpa using hd)
        clear hd hq hlt
        go_wp2_with fail
        exact ⟨⟨k + 1, by omega, (by first | rfl | trivial), (by first | rfl | trivial), hN⟩, by simp [intOf] <;> omega⟩
    · obtain rfl : k = 15 := by have : kwL.length = 15 := rfl; omega
      have hN : N = false := by rw [← hq.out]; rfl
      subst hN
      clear hq hlt
      go_wp2_with fail
      go_ret
      exact ⟨rfl, n1⟩
theorem rname_any (l : Bs) (hl : l.length ≤ 9223372036854775807) (w : World) : Calls Tryz.prog 57 #[.string ⟨l.toArray⟩] w fun e w' => e = .returned (.bool (nameS l)) ∧ Nb w w' := by
  have hA := Lib.hid hl
  obtain ⟨N, hN⟩ : ∃ N, nameS l = N := ⟨_, rfl⟩
  rw [hN]
  unfold nameS at hN
  have hkw := Lib.hid (rkw_any l)
  have hwd := Lib.hid (rword_any l hl)
  by_cases h2 : (l.length : Int) ≤ 32
  · have e2 : decide (l.length ≤ 32) = true := by simp; omega
    rw [e2] at hN
    cases h3 : (decide (1 ≤ l.length) && allN l true) with
    | false =>
      have e : N = false := by
        rw [← hN]
        cases h4 : decide (1 ≤ l.length) with
        | false => rfl
        | true => rw [h4] at h3; simp at h3; rw [h3]; simp
      subst e
      rw [h3] at hwd
      clear hN h3 e2
      go_enter Tryz.func57, Tryz.ntmps57
      go_wp2_with (go_at_call 74; refine (hwd.out _).mono ?_; rintro e w1 ⟨rfl, rfl⟩)
      go_ret
      exact ⟨by simp, Nb.refl _⟩
    | true =>
      have e : N = !kwS l := by
        rw [← hN]
        simp at h3
        rw [h3.2]
        simp
        omega
      subst e
      rw [h3] at hwd
      clear hN h3 e2
      obtain ⟨b, hb⟩ : ∃ b, kwS l = b := ⟨_, rfl⟩
      rw [hb] at hkw ⊢
      clear hb
      go_enter Tryz.func57, Tryz.ntmps57
      go_wp2_with (first | (go_at_call 74; refine (hwd.out _).mono ?_; rintro e w1 ⟨rfl, rfl⟩) | (go_at_call 75; refine (hkw.out _).mono ?_; rintro e w2 ⟨rfl, n2⟩))
      go_ret
      exact ⟨by simp, n2⟩
  · have e : N = false := by rw [← hN]; simp; omega
    subst e
    clear hN hkw hwd
    go_enter Tryz.func57, Tryz.ntmps57
    go_wp2_with fail
    go_ret
    exact ⟨by simp, Nb.refl _⟩
end Go.Proofs.YtebcjocpmnapeaaGreatDoor
end
section
namespace Go.Proofs.YtebcjocpmnapeaaGreatDoor
open Go.RowKit
set_option linter.unusedVariables false
set_option linter.unusedSimpArgs false
set_option maxRecDepth 100000
set_option maxHeartbeats 4000000
theorem addB (a b : Bs) : (⟨a.toArray⟩ : ByteArray) ++ ⟨b.toArray⟩ = ⟨(a ++ b).toArray⟩ := ByteArray.mk_append_mk a b
theorem jnT_lt {l : List Bs} {i : Nat} {x : Bs} (h : l[i]? = some x) : x.length ≤ (jnT l).length := by
  have h1 := jnT_le l (i + 1)
  rw [jnT_take l i x h, List.length_append] at h1
  unfold sepT at h1
  rw [List.length_append] at h1
  omega
theorem rtxEs_any (W0 : World) (l : List Ex) (v : Value) (hv : ExsHas W0 v l) (ih : ∀ x ∈ l, ∀ w, Nb W0 w → Calls Tryz.prog 66 #[.agg x.cells.toArray] w fun r w' => r = .returned (sV (txE x)) ∧ Nb w w')
    (hlen : (jnT (txEs l)).length ≤ 1000000) (w : World) (hw : Nb W0 w) : Calls Tryz.prog 22 #[v] w fun r w' => r = .returned (sV (jnT (txEs l))) ∧ Nb w w' := by
  have hX := hv.row
  obtain ⟨A0, cap0, rfl, hcap, hlenr, hz⟩ := hX.head
  rw [List.length_map] at hcap hlenr hX ⊢
  replace hX := Lib.hid hX
  obtain ⟨M, hM⟩ : ∃ M, l.length = M := ⟨_, rfl⟩
  have hMh := Lib.hid hM
  rw [hM] at hX hcap hlenr ⊢
  clear hM hv
  have hfin : (txEs l).take M = txEs l := by
    rw [List.take_of_length_le]
    rw [txEs_map, List.length_map, hMh.out]
    exact Nat.le_refl _
  replace hfin := Lib.hid hfin
  have hle := Lib.hid hlen
  replace ih := Lib.hid ih
  clear hlen
  go_enter Tryz.func22, Tryz.ntmps22
  go_wp2_with fail
  go_loopw [3, 4] (fun s si wr => ∃ i : Nat, i ≤ M ∧ si = .int .i64 i ∧ s = sV (jnT ((txEs l).take i)) ∧ Nb w wr) (fun _ si _ => M - (intOf si).toNat)
  case atStart => exact ⟨0, Nat.zero_le _, rfl, rfl, Nb.refl _⟩
  case round =>
    obtain ⟨i, hi2, rfl, rfl, hn⟩ := hrel
    by_cases hlt2 : i < M
    · have hlt3 : (i : Int) < (M : Int) := by omega
      obtain ⟨x, hx⟩ : ∃ x, l[i]? = some x := ⟨_, List.getElem?_eq_getElem (by rw [hMh.out]; exact hlt2)⟩
      obtain ⟨b, o, hbo, hxc⟩ := RowS.at_ hX.out (i := i) (r := x.cells) (by rw [List.getElem?_map, hx]; rfl)
      obtain rfl := hbo
      have hnb : Nb W0 wr := hw.trans hn
      have x0 := hnb.cell (hxc 0 _ rfl)
      have x1 := hnb.cell (hxc 1 _ rfl)
      have x2 := hnb.cell (hxc 2 _ rfl)
      have x3 := hnb.cell (hxc 3 _ rfl)
      have x4 := hnb.cell (hxc 4 _ rfl)
      rw [Nat.add_zero] at x0
      have hmem := List.mem_of_getElem? hx
      have hcall := Lib.hid (ih.out x hmem wr hnb)
      have hxt : (txEs l)[i]? = some (txE x) := by rw [txEs_map, List.getElem?_map, hx]; rfl
      have htk := jnT_take _ i _ hxt
      have hl1 : (jnT ((txEs l).take (i + 1))).length ≤ 1000000 := Nat.le_trans (jnT_le _ _) hle.out
      rw [htk] at hl1
      obtain ⟨X, hX1⟩ : ∃ X, txE x = X := ⟨_, rfl⟩
      obtain ⟨Y, hY1⟩ : ∃ Y, jnT ((txEs l).take i) = Y := ⟨_, rfl⟩
      rw [hX1, hY1] at htk hl1
      rw [hY1]
      rw [hX1] at hcall
      replace htk := Lib.hid htk
      clear hx hxc hxt hX1 hY1
      by_cases h0 : i = 0
      · have h5 : ¬ (0 : Int) < (i : Int) := by omega
        rw [show sepT i X = X from by rw [sepT, if_pos h0]; rfl] at htk hl1
        rw [List.length_append] at hl1
        obtain rfl := h0
        simp only [Nat.zero_mul, Nat.add_zero] at x0 x1 x2 x3 x4
        go_wp2_with (go_at_call 66; refine (hcall.out).mono ?_; rintro r w6 ⟨rfl, g6⟩)
        exact ⟨⟨0 + 1, by omega, by simp, by rw [htk.out, addB], hn.trans g6⟩, by simp [intOf] <;> omega⟩
      · have h5 : (0 : Int) < (i : Int) := by omega
        rw [show sepT i X = [44, 32] ++ X from by rw [sepT, if_neg h0]] at htk hl1
        rw [List.length_append, List.length_append] at hl1
        go_wp2_with (go_at_call 66; refine (hcall.out).mono ?_; rintro r w6 ⟨rfl, g6⟩)
        exact ⟨⟨i + 1, by omega, by simp, by rw [htk.out]; simp only [addB, List.append_assoc], hn.trans g6⟩, by simp [intOf] <;> omega⟩
    · obtain rfl : i = M := by omega
      go_wp2_with fail
      go_ret
      exact ⟨by show Ending.returned (sV _) = _; rw [hfin.out], hn⟩
end Go.Proofs.YtebcjocpmnapeaaGreatDoor
end
