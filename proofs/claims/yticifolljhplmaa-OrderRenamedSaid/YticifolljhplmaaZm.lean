/-
  Proved here: whether operations may be (Good of the code). Conditions: there are at most a million.
-/
import Derived.Test.YticifolljhplmaaYl
import Derived.Test.YticifolljhplmaaZc
import Derived.Test.YticifolljhplmaaZl
namespace Go.Proofs.Yticifolljhplmaa
open Go.RowKit Go.Sort Go.Shelf
set_option linter.unusedVariables false
set_option linter.unusedSimpArgs false
set_option maxRecDepth 100000
set_option maxHeartbeats 4000000
def seenB (P : List OpD) (x : Int) : Bool := P.any fun m => decide (m.id = x)
def pairB (P : List OpD) (x : Int) : Bool := P.any fun m => decide (m.id = x) && m.load
def stepB (P : List OpD) (d : OpD) : Bool := !seenB P d.id && decide (0 ≤ d.id) && wellB d && (decide (d.pair = -1) || pairB P d.pair)
def goodTo (L : List OpD) : Nat → Bool
  | 0 => true
  | k + 1 => goodTo L k && (match L[k]? with | some d => stepB (L.take k) d | none => true)
def goodS (L : List OpD) : Bool := goodTo L L.length
theorem goodTo_step {L : List OpD} {k : Nat} {d : OpD} (h : L[k]? = some d) : goodTo L (k + 1) = (goodTo L k && stepB (L.take k) d) := by
  rw [show goodTo L (k + 1) = (goodTo L k && (match L[k]? with | some d => stepB (L.take k) d | none => true)) from rfl, h]
theorem goodTo_false {L : List OpD} {j m : Nat} (h : j ≤ m) (hj : goodTo L j = false) : goodTo L m = false := by
  induction m with
  | zero => obtain rfl : j = 0 := by omega
            exact hj
  | succ m ih =>
    by_cases e : j = m + 1
    · rw [← e]; exact hj
    · unfold goodTo
      rw [ih (by omega)]
      rfl
theorem good_no {L : List OpD} {k : Nat} {d : OpD} (h : L[k]? = some d) (hs : stepB (L.take k) d = false) : goodS L = false :=
  goodTo_false (j := k + 1) (List.getElem?_eq_some_iff.1 h).1 (by rw [goodTo_step h, hs, Bool.and_false])
theorem wf_i64 {x : Int} (h : InR x) : (Lit.int .i64 x).wf = true := by
  unfold InR at h
  simp [Lit.wf, IntKind.min, IntKind.max, IntKind.signed, IntKind.bits]
  omega
/-- What the map holds between two rounds. -/
def MapI (Bm : Nat) (L : List OpD) (k : Nat) (wr : World) : Prop :=
  ∃ D : DataW Unit, wr.ownsMap Try.prog 3 (plainElem Try.prog 3) Bm k D ∧ Maps.IsMap D ∧ (∀ x, InR x → Maps.has D (.int .i64 x) = seenB (L.take k) x) ∧
    (∀ (j : Nat) (d : OpD), j < k → L[j]? = some d → D.atKey (.int .i64 d.id) (.lit (.int .i64 0)) = .lit (.int .i64 (j : Int)))
theorem seenB_next {L : List OpD} {k : Nat} {m : OpD} (h : L[k]? = some m) (x : Int) : seenB (L.take (k + 1)) x = (seenB (L.take k) x || decide (m.id = x)) := by
  unfold seenB
  rw [List.take_add_one, h]
  simp [List.any_append]
theorem MapI.nb {Bm : Nat} {L : List OpD} {k : Nat} {a b : World} (h : MapI Bm L k a) (g : Nb a b) : MapI Bm L k b := by
  obtain ⟨D, h1, h2⟩ := h
  exact ⟨D, h1.kept (grown_of_nb g) (by simp), h2⟩
theorem MapI.drawn {L : List OpD} {k j : Nat} {d : OpD} {D : DataW Unit} (h : ∀ (j : Nat) (d : OpD), j < k → L[j]? = some d → D.atKey (.int .i64 d.id) (.lit (.int .i64 0)) = .lit (.int .i64 (j : Int)))
    (hj : j < k) (hd : L[j]? = some d) : pairB (L.take k) d.id = d.load := by
  unfold pairB
  rw [Bool.eq_iff_iff, List.any_eq_true]
  constructor
  · rintro ⟨m, hm, hc⟩
    simp only [Bool.and_eq_true, decide_eq_true_eq] at hc
    obtain ⟨i, hi, e⟩ := List.mem_iff_getElem.1 hm
    have hi2 : i < k := by
      rw [List.length_take] at hi
      omega
    have hm2 : L[i]? = some m := by
      rw [List.getElem_take] at e
      rw [← e]
      exact List.getElem?_eq_getElem _
    have e1 := h i m hi2 hm2
    rw [hc.1, h j d hj hd] at e1
    have e2 : j = i := by
      injection e1 with e1
      injection e1 with _ e1
      omega
    subst e2
    rw [hd] at hm2
    cases hm2
    exact hc.2
  · intro hl
    refine ⟨d, ?_, by simp [hl]⟩
    rw [List.mem_iff_getElem?]
    exact ⟨j, by rw [List.getElem?_take, if_pos hj, hd]⟩
theorem MapI.put {Bm : Nat} {L : List OpD} {k : Nat} {m : OpD} {wr' : World} {D : DataW Unit} (hm : L[k]? = some m) (hr : InR m.id) (hs : seenB (L.take k) m.id = false) (h2 : Maps.IsMap D) (h3 : ∀ x, InR x → Maps.has D (.int .i64 x) = seenB (L.take k) x)
    (h4 : ∀ (j : Nat) (d : OpD), j < k → L[j]? = some d → D.atKey (.int .i64 d.id) (.lit (.int .i64 0)) = .lit (.int .i64 (j : Int)))
    (h1 : wr'.ownsMap Try.prog 3 (plainElem Try.prog 3) Bm (k + 1) (D.put (.int .i64 m.id) (.lit (.int .i64 (k : Int))))) : MapI Bm L (k + 1) wr' := by
  refine ⟨_, h1, h2.put _ _, fun x hx => ?_, fun j d hj hd => ?_⟩
  · rw [seenB_next hm]
    by_cases e : x = m.id
    · subst e
      rw [Maps.has_put_same (k := .int .i64 m.id) h2 trivial]
      simp
    · rw [Maps.has_put_other (by intro q; injection q; contradiction), h3 x hx]
      simp [Ne.symm e]
  · by_cases e : j = k
    · subst e
      rw [hm] at hd
      cases hd
      exact Maps.atKey_put_same (k := .int .i64 m.id) h2 trivial _ _
    · have hne : d.id ≠ m.id := by
        intro q
        have : seenB (L.take k) m.id = true := by
          unfold seenB
          rw [List.any_eq_true]
          exact ⟨d, List.mem_iff_getElem?.2 ⟨j, by rw [List.getElem?_take, if_pos (by omega), hd]⟩, by simp [q]⟩
        rw [hs] at this
        cases this
      rw [Maps.atKey_put_other (by intro q; injection q; contradiction)]
      exact h4 j d (by omega) hd
theorem run_mkhint {P : Program} (t k e : TypeId) (kd : IntKind) (n : Int) (ht : P.underlying t = some (.map k e)) (w : World) :
    (Instr.makeMap t (some (.int kd n))).run P w = .ok (.map (some w.heap.size)) (w.alloc (.map #[] 0)) := by
  simp [Instr.makeMap, run_underlying ht]; rfl
theorem good_any (v : Value) (L : List OpD) (w : World) (h : OpsR w v L) (hn : L.length ≤ 1000000) (hp : ∀ m ∈ L, InR m.pair) :
    Calls Try.prog 16 #[v] w fun e w' => e = .returned (.bool (goodS L)) ∧ Nb w w' := by
  obtain ⟨p, c, rfl, hX⟩ := h.cases
  have hX' := Lib.hid hX
  obtain ⟨n, hnl⟩ : ∃ n, L.length = n := ⟨_, rfl⟩
  rw [hnl] at hX' hn ⊢
  have hn' := Lib.hid hnl
  have hph := Lib.hid hp
  have hmk := fun (W : World) (x : Int) => run_mkhint (P := Try.prog) 55 _ _ .i64 x Try.underlying55 W
  clear h hX hnl hp
  go_enter Try.func16, Try.ntmps16
  go_wp2_with fail
  clear hmk
  go_loopw [15] (fun i wr => ∃ k : Nat, k ≤ n ∧ i = .int .i64 k ∧ Hid (goodTo L k = true ∧ Nb w wr ∧ MapI w.heap.size L k wr)) (fun i _ => n - (intOf i).toNat)
  case atStart => exact ⟨0, Nat.zero_le _, rfl, Lib.hid ⟨rfl, (Nb.refl w).alloc _, .map [], World.ownsMap_made (H := Unit) w Try.prog 3 (plainElem Try.prog 3), ⟨_, rfl⟩, fun x _ => rfl, fun j d hj => absurd hj (by omega)⟩⟩
  case round =>
    obtain ⟨k, hk, rfl, hI⟩ := hrel
    by_cases hlt : k < n
    · obtain ⟨b, o, d, rfl, hd, hA, hcap⟩ := hX'.out k hlt
      obtain ⟨hg, hN, D, m1, m2, m3, m4⟩ := hI.out
      have hd' := Lib.hid hd
      have hA2 := hA.nb hN
      have c0 := hA2.c0
      have c13 := hA2.c13
      have hW := well_any b (o + k * 17) d
      have hAh := Lib.hid hA2
      have hNh := Lib.hid hN
      have idr : InR d.id := ⟨hA.ok.i0, hA.ok.i1⟩
      have prr : InR d.pair := hph.out d (List.mem_of_getElem? hd)
      have wid := Lib.hid (wf_i64 idr)
      have wpr := Lib.hid (wf_i64 prr)
      have h3 := Lib.hid (m3 d.id idr)
      have h3p := Lib.hid (m3 d.pair prr)
      have m1h := Lib.hid m1
      have m2h := Lib.hid m2
      have m3h := Lib.hid m3
      have m4h := Lib.hid m4
      have hgh := Lib.hid hg
      have idh := Lib.hid idr
      have hWh := Lib.hid hW
      have hcap' : k < c := by omega
      have e1 : IntKind.i64.wrap ((k : Int) + 1) = ((k + 1 : Nat) : Int) := by rw [IntKind.wrap_i64]; omega
      clear hd hA hA2 hN hI m1 m2 m3 m4 hg idr prr hW
      cases hb1 : seenB (L.take k) d.id with
      | true =>
        rw [hb1] at h3
        have hr := Lib.hid (good_no hd'.out (by unfold stepB; rw [hb1]; rfl))
        clear hb1
        go_wp2_with (at_lookup; refine wpList_lookup_own_ok_int _ rfl (.tmp 22) (.tmp 26) 55 rfl 3 3 .i64 int_keyed3 Try.underlying55 Try.underlying3 (Try.zeroValue3 _) _ k D rfl m1h.out _ _ rfl (Maps.keyOf_int_mk Try.underlying3 wid.out) ?_; intro cc hat hwc; rw [h3.out])
        go_ret
        exact ⟨by rw [hr.out]; rfl, hNh.out⟩
      | false =>
        rw [hb1] at h3
        by_cases hid0 : d.id < 0
        · have hr := Lib.hid (good_no hd'.out (by unfold stepB; rw [show decide (0 ≤ d.id) = false by simpa using hid0]; simp))
          clear hb1
          go_wp2_with (at_lookup; refine wpList_lookup_own_ok_int _ rfl (.tmp 22) (.tmp 26) 55 rfl 3 3 .i64 int_keyed3 Try.underlying55 Try.underlying3 (Try.zeroValue3 _) _ k D rfl m1h.out _ _ rfl (Maps.keyOf_int_mk Try.underlying3 wid.out) ?_; intro cc hat hwc; rw [h3.out])
          go_ret
          exact ⟨by rw [hr.out]; rfl, hNh.out⟩
        · have hid1 : decide (0 ≤ d.id) = true := by simp; omega
          have hd1 := Lib.hid hid1
          have hb1h := Lib.hid hb1
          clear hb1 hid1
          cases hw0 : wellB d with
          | false =>
            have hw := Lib.hid hw0
            have hr := Lib.hid (good_no hd'.out (by unfold stepB; rw [hw0]; simp))
            clear hw0
            go_wp2_with (first
              | (at_lookup; refine wpList_lookup_own_ok_int _ rfl (.tmp 22) (.tmp 26) 55 rfl 3 3 .i64 int_keyed3 Try.underlying55 Try.underlying3 (Try.zeroValue3 _) _ k D rfl m1h.out _ _ rfl (Maps.keyOf_int_mk Try.underlying3 wid.out) ?_; intro cc hat hwc; rw [h3.out])
              | (go_at_call 28; refine (hWh.out _ hAh.out).mono ?_; rintro e w1 ⟨rfl, k1⟩; rw [hw.out]; have m1w := Lib.hid (m1h.out.kept (grown_of_nb k1) (by simp)); have c0 := k1.cell c0; have c13 := k1.cell c13))
            go_ret
            exact ⟨by rw [hr.out]; rfl, hNh.out.trans k1⟩
          | true =>
            have hw := Lib.hid hw0
            clear hw0
            have wk := Lib.hid (wf_i64 (x := (k : Int)) (by unfold InR; omega))
            by_cases hpm : d.pair = -1
            · have hstep := Lib.hid (show stepB (L.take k) d = true by unfold stepB; rw [hb1h.out, hd1.out, hw.out, hpm]; simp)
              have hq : (d.pair != -1) = false := by simp [hpm]
              clear hpm
              go_wp2_with (first
                | (at_lookup; refine wpList_lookup_own_ok_int _ rfl (.tmp 22) (.tmp 26) 55 rfl 3 3 .i64 int_keyed3 Try.underlying55 Try.underlying3 (Try.zeroValue3 _) _ k D rfl m1h.out _ _ rfl (Maps.keyOf_int_mk Try.underlying3 wid.out) ?_; intro cc hat hwc; rw [h3.out])
                | (at_lookup; refine wpList_lookup_own_ok_int _ rfl (.tmp 44) (.tmp 48) 55 rfl 3 3 .i64 int_keyed3 Try.underlying55 Try.underlying3 (Try.zeroValue3 _) _ k D rfl m1w.out _ _ rfl (Maps.keyOf_int_mk Try.underlying3 wpr.out) ?_; intro cc hat hwc; rw [h3p.out])
                | (go_at_call 28; refine (hWh.out _ hAh.out).mono ?_; rintro e w1 ⟨rfl, k1⟩; rw [hw.out]; have m1w := Lib.hid (m1h.out.kept (grown_of_nb k1) (by simp)); have c0 := k1.cell c0; have c13 := k1.cell c13)
                | (at_mapUpdate; refine wpList_mapUpdate_own _ rfl (.tmp 68) (.tmp 72) (.tmp 73) 55 rfl 3 3 int_keyed3 Try.underlying55 _ _ k D rfl m1w.out (by unfold maxLen; omega) _ _ _ rfl rfl (Maps.keyOf_int_mk Try.underlying3 wid.out) _ [] (plainElem_int Try.underlying3 wk.out) ?_; intro w2 hown1 hgrow1))
              go_roundw
              case rel => exact ⟨k + 1, hlt, by simp, Lib.hid ⟨by rw [goodTo_step hd'.out, hgh.out]; rw [hstep.out]; rfl, Nb.grown (hNh.out.trans k1) hgrow1 (fun r e => by cases e; exact Nat.le_refl _), MapI.put hd'.out idh.out hb1h.out m2h.out m3h.out m4h.out hown1⟩⟩
              case measure => simp [intOf, e1]; omega
            · have hq : (d.pair != -1) = true := by simpa using hpm
              cases hb2 : seenB (L.take k) d.pair with
              | false =>
                rw [hb2] at h3p
                have hpb : pairB (L.take k) d.pair = false := by
                  unfold pairB
                  unfold seenB at hb2
                  rw [List.any_eq_false] at hb2 ⊢
                  intro x hx
                  have := hb2 x hx
                  simp at this
                  simp [this]
                have hr := Lib.hid (good_no hd'.out (by unfold stepB; rw [hpb, show decide (d.pair = -1) = false by simpa using hpm]; simp))
                clear hb2 hpb hpm
                go_wp2_with (first
                  | (at_lookup; refine wpList_lookup_own_ok_int _ rfl (.tmp 22) (.tmp 26) 55 rfl 3 3 .i64 int_keyed3 Try.underlying55 Try.underlying3 (Try.zeroValue3 _) _ k D rfl m1h.out _ _ rfl (Maps.keyOf_int_mk Try.underlying3 wid.out) ?_; intro cc hat hwc; rw [h3.out])
                  | (at_lookup; refine wpList_lookup_own_ok_int _ rfl (.tmp 44) (.tmp 48) 55 rfl 3 3 .i64 int_keyed3 Try.underlying55 Try.underlying3 (Try.zeroValue3 _) _ k D rfl m1w.out _ _ rfl (Maps.keyOf_int_mk Try.underlying3 wpr.out) ?_; intro cc hat hwc; rw [h3p.out])
                  | (go_at_call 28; refine (hWh.out _ hAh.out).mono ?_; rintro e w1 ⟨rfl, k1⟩; rw [hw.out]; have m1w := Lib.hid (m1h.out.kept (grown_of_nb k1) (by simp)); have c0 := k1.cell c0; have c13 := k1.cell c13))
                go_ret
                exact ⟨by rw [hr.out]; rfl, hNh.out.trans k1⟩
              | true =>
                rw [hb2] at h3p
                obtain ⟨j, dj, hjk, hdj, hje⟩ : ∃ (j : Nat) (dj : OpD), j < k ∧ L[j]? = some dj ∧ dj.id = d.pair := by
                  unfold seenB at hb2
                  rw [List.any_eq_true] at hb2
                  obtain ⟨x, hx, hc⟩ := hb2
                  obtain ⟨j, hj⟩ := List.mem_iff_getElem?.1 hx
                  rw [List.getElem?_take] at hj
                  split at hj
                  · exact ⟨j, x, by assumption, hj, by simpa using hc⟩
                  · cases hj
                have hpl := MapI.drawn m4h.out hjk hdj
                rw [hje] at hpl
                have hcc := Lib.hid (show ∀ cc : Int, D.atKey (.int .i64 d.pair) (.lit (.int .i64 0)) = .lit (.int .i64 cc) → cc = (j : Int) by
                  intro cc hat
                  have h1 := m4h.out j dj hjk hdj
                  rw [hje, hat] at h1
                  injection h1 with h1
                  injection h1)
                obtain ⟨bj, oj, djj, hpe, hdjj, hAj, -⟩ := hX'.out j (by omega)
                cases hpe
                rw [hdj] at hdjj
                cases hdjj
                have cj := (hAj.nb hNh.out).c1
                have bj1 : (j : Int) < (n : Int) := by omega
                have bj2 : j < c := by omega
                clear hb2 hAj hdj hje
                have hpmh := Lib.hid (show decide (d.pair = -1) = false by simpa using hpm)
                clear hpm
                cases hl : dj.load with
                | false =>
                  rw [hl] at hpl cj
                  have hr := Lib.hid (good_no hd'.out (by unfold stepB; rw [hpl, hpmh.out]; simp))
                  clear hl hpl
                  go_wp2_with (first
                    | (at_lookup; refine wpList_lookup_own_ok_int _ rfl (.tmp 22) (.tmp 26) 55 rfl 3 3 .i64 int_keyed3 Try.underlying55 Try.underlying3 (Try.zeroValue3 _) _ k D rfl m1h.out _ _ rfl (Maps.keyOf_int_mk Try.underlying3 wid.out) ?_; intro cc hat hwc; rw [h3.out])
                    | (at_lookup; refine wpList_lookup_own_ok_int _ rfl (.tmp 44) (.tmp 48) 55 rfl 3 3 .i64 int_keyed3 Try.underlying55 Try.underlying3 (Try.zeroValue3 _) _ k D rfl m1w.out _ _ rfl (Maps.keyOf_int_mk Try.underlying3 wpr.out) ?_; intro cc hat hwc; rw [h3p.out]; obtain rfl := hcc.out _ hat)
                    | (go_at_call 28; refine (hWh.out _ hAh.out).mono ?_; rintro e w1 ⟨rfl, k1⟩; rw [hw.out]; have m1w := Lib.hid (m1h.out.kept (grown_of_nb k1) (by simp)); have c0 := k1.cell c0; have c13 := k1.cell c13; have cj := k1.cell cj))
                  go_ret
                  exact ⟨by rw [hr.out]; rfl, hNh.out.trans k1⟩
                | true =>
                  rw [hl] at hpl cj
                  have hstep := Lib.hid (show stepB (L.take k) d = true by unfold stepB; rw [hb1h.out, hd1.out, hw.out, hpl]; simp)
                  clear hl hpl
                  go_wp2_with (first
                    | (at_lookup; refine wpList_lookup_own_ok_int _ rfl (.tmp 22) (.tmp 26) 55 rfl 3 3 .i64 int_keyed3 Try.underlying55 Try.underlying3 (Try.zeroValue3 _) _ k D rfl m1h.out _ _ rfl (Maps.keyOf_int_mk Try.underlying3 wid.out) ?_; intro cc hat hwc; rw [h3.out])
                    | (at_lookup; refine wpList_lookup_own_ok_int _ rfl (.tmp 44) (.tmp 48) 55 rfl 3 3 .i64 int_keyed3 Try.underlying55 Try.underlying3 (Try.zeroValue3 _) _ k D rfl m1w.out _ _ rfl (Maps.keyOf_int_mk Try.underlying3 wpr.out) ?_; intro cc hat hwc; rw [h3p.out]; obtain rfl := hcc.out _ hat)
                    | (go_at_call 28; refine (hWh.out _ hAh.out).mono ?_; rintro e w1 ⟨rfl, k1⟩; rw [hw.out]; have m1w := Lib.hid (m1h.out.kept (grown_of_nb k1) (by simp)); have c0 := k1.cell c0; have c13 := k1.cell c13; have cj := k1.cell cj)
                    | (at_mapUpdate; refine wpList_mapUpdate_own _ rfl (.tmp 68) (.tmp 72) (.tmp 73) 55 rfl 3 3 int_keyed3 Try.underlying55 _ _ k D rfl m1w.out (by unfold maxLen; omega) _ _ _ rfl rfl (Maps.keyOf_int_mk Try.underlying3 wid.out) _ [] (plainElem_int Try.underlying3 wk.out) ?_; intro w2 hown1 hgrow1))
                  go_roundw
                  case rel => exact ⟨k + 1, hlt, by simp, Lib.hid ⟨by rw [goodTo_step hd'.out, hgh.out]; rw [hstep.out]; rfl, Nb.grown (hNh.out.trans k1) hgrow1 (fun r e => by cases e; exact Nat.le_refl _), MapI.put hd'.out idh.out hb1h.out m2h.out m3h.out m4h.out hown1⟩⟩
                  case measure => simp [intOf, e1]; omega
    · have hkn : k = n := by omega
      subst hkn
      have hI' := hI
      clear hI
      go_wp2_with fail
      go_ret
      refine ⟨?_, hI'.out.2.1⟩
      have : goodS L = true := by unfold goodS; rw [hn'.out]; exact hI'.out.1
      rw [this]; rfl
end Go.Proofs.Yticifolljhplmaa
