/-
  Proved here: the iterator over the rules that hold of two operations (holding of the code). Conditions: there are at most a million operations.
-/
import Derived.Test.YticifolljhplmaaYm
import Derived.Test.YticifolljhplmaaYn
import Derived.StillTailTactics
namespace Go.Proofs.Yticifolljhplmaa
open Go.RowKit Go.Sort Go.Shelf
set_option linter.unusedVariables false
set_option linter.unusedSimpArgs false
set_option maxRecDepth 100000
set_option maxHeartbeats 4000000
theorem rule1_all (n : Nat) (h1 : 1 ≤ n) (h13 : n ≤ 13) (ga gb gp ab ao bb bo : Nat) (v : Value) (a b : OpD) (l : List OpD) (w : World) (h : RuleW w ga gb gp ab ao bb bo v a b l) :
    Calls Try.prog 50 #[.int .i64 (n : Int), .pointer (some ⟨gb, 0, none⟩), .pointer (some ⟨ga, 0, none⟩), .pointer (some ⟨gp, 0, none⟩)] w fun e w' => e = .returned (.bool (ruleB a b l n)) ∧ Nb w w' := by
  rcases n with _ | _ | _ | _ | _ | _ | _ | _ | _ | _ | _ | _ | _ | _ | n
  · omega
  · exact rule1_1 ga gb gp ab ao bb bo v a b l w h
  · exact rule1_2 ga gb gp ab ao bb bo v a b l w h
  · exact rule1_3 ga gb gp ab ao bb bo v a b l w h
  · exact rule1_4 ga gb gp ab ao bb bo v a b l w h
  · exact rule1_5 ga gb gp ab ao bb bo v a b l w h
  · exact rule1_6 ga gb gp ab ao bb bo v a b l w h
  · exact rule1_7 ga gb gp ab ao bb bo v a b l w h
  · exact rule1_8 ga gb gp ab ao bb bo v a b l w h
  · exact rule1_9 ga gb gp ab ao bb bo v a b l w h
  · exact rule1_10 ga gb gp ab ao bb bo v a b l w h
  · exact rule1_11 ga gb gp ab ao bb bo v a b l w h
  · exact rule1_12 ga gb gp ab ao bb bo v a b l w h
  · exact rule1_13 ga gb gp ab ao bb bo v a b l w h
  · omega
/-- The numbers of the rules that hold, up to k. -/
def rulesTo (a b : OpD) (l : List OpD) (k : Nat) : List Int := ((List.range k).filter fun m => ruleB a b l (m + 1)).map fun (m : Nat) => (m : Int) + 1
theorem rulesTo_succ (a b : OpD) (l : List OpD) (k : Nat) : rulesTo a b l (k + 1) = if ruleB a b l (k + 1) = true then rulesTo a b l k ++ [(k : Int) + 1] else rulesTo a b l k := by
  unfold rulesTo
  rw [List.range_succ, List.filter_append, List.map_append]
  by_cases h : ruleB a b l (k + 1) = true
  · simp [List.filter_cons, h]
  · simp [List.filter_cons, h]
theorem rulesTo_prefix (a b : OpD) (l : List OpD) {k m : Nat} (h : k ≤ m) : rulesTo a b l k <+: rulesTo a b l m := by
  induction m with
  | zero => obtain rfl : k = 0 := by omega
            exact List.prefix_refl _
  | succ m ih =>
    rcases Nat.lt_or_ge k (m + 1) with h1 | h1
    · refine (ih (by omega)).trans ?_
      rw [rulesTo_succ]
      split
      · exact List.prefix_append _ _
      · exact List.prefix_refl _
    · obtain rfl : k = m + 1 := by omega
      exact List.prefix_refl _
/-- The operations between two places. -/
def midS (L : List OpD) (i j : Nat) : List OpD := (L.take j).drop (i + 1)
/-- All rules that hold of two places. -/
def rulesS (L : List OpD) (i j : Int) : List Int :=
  if 0 ≤ i ∧ i < j ∧ j < (L.length : Int) then
    match L[i.toNat]?, L[j.toNat]? with
    | some a, some b => if (movesS a && movesS b) = true then rulesTo a b (midS L i.toNat j.toNat) 13 else []
    | _, _ => []
  else []
theorem mid_ops {w : World} {b o c : Nat} {L : List OpD} (hx : ∀ (i : Nat) (d : OpD), L[i]? = some d → OpAt w b (o + i * 17) d) (hb : b < w.heap.size) (hc : L.length ≤ c) {i j : Nat} (hij : i < j) (hj : j < L.length) :
    OpsR w (.slice (some ⟨b, o + (i + 1) * 17, none⟩) (j - (i + 1)) (c - (i + 1))) (midS L i j) := by
  have hlen : (midS L i j).length = j - (i + 1) := by
    unfold midS
    rw [List.length_drop, List.length_take]
    omega
  refine .inr ⟨b, o + (i + 1) * 17, c - (i + 1), by rw [hlen], hb, by rw [hlen]; omega, fun k d hk => ?_⟩
  have h1 : L[i + 1 + k]? = some d := by
    unfold midS at hk
    rw [List.getElem?_drop, List.getElem?_take] at hk
    split at hk
    · exact hk
    · cases hk
  have h2 := hx _ d h1
  rw [show o + (i + 1) * 17 + k * 17 = o + (i + 1 + k) * 17 by omega]
  exact h2
theorem mid_sub {L : List OpD} {i j : Nat} {m : OpD} (h : m ∈ midS L i j) : m ∈ L := List.mem_of_mem_take (List.mem_of_mem_drop h)
/-- The lists of an operation are no longer than memory can hold. -/
def ShortOp (d : OpD) : Prop := d.addrs.length ≤ 4611686018427387904 ∧ d.datas.length ≤ 4611686018427387904 ∧ d.ctrls.length ≤ 4611686018427387904
/-- What a round keeps. -/
def KpH (w0 W W' : World) : Prop := Below w0.heap.size W W' ∧ KpT (fun t => t == 56 || t == 67) W W'
theorem KpH.trans {w0 A B C : World} (h : KpH w0 A B) (k : KpH w0 B C) : KpH w0 A C := ⟨h.1.trans k.1, h.2.trans k.2⟩
theorem moves_eq (b o : Nat) (d : OpD) (w : World) (h : OpAt w b o d) (A : Addr) (e : A = ⟨b, o, none⟩) : Calls Try.prog 38 #[.pointer (some A)] w fun e w' => e = .returned (.bool (movesS d)) ∧ w = w' := by
  subst e
  exact moves_any b o d w h
def S3 (wr : World) (f g h : Nat) (a b c : Value) (w' : World) : Prop := Nb wr w' ∧ w'.cell? ⟨f, 0, none⟩ = some a ∧ w'.cell? ⟨g, 0, none⟩ = some b ∧ w'.cell? ⟨h, 0, none⟩ = some c
theorem S3.of {wr w' : World} {f g h : Nat} {a b c : Value} (e0 : wr.cell? ⟨f, 0, none⟩ = some a) (e1 : wr.cell? ⟨g, 0, none⟩ = some b) (e2 : wr.cell? ⟨h, 0, none⟩ = some c) (k : Nb wr w') : S3 wr f g h a b c w' := ⟨k, k.cell e0, k.cell e1, k.cell e2⟩
theorem prefix_at {P Q : List Int} {x : Int} (h : P ++ [x] <+: Q) : Q[P.length]? = some x ∧ Q.take P.length = P := by
  obtain ⟨r, rfl⟩ := h
  constructor
  · simp
  · simp
attribute [local go_sem] Oper.semAt_some
theorem holding1_any (n : Nat) (hn : 1 ≤ n) (l Bi Bj Bl : Nat) (i j : Int) (v : Value) (L : List OpD) (w0 : World) (hO : OpsR w0 v L) (hL : L.length ≤ 1000000) (hs : ∀ m ∈ L, ShortOp m) (J Jx : List Int → World → Prop)
    (hY : ∀ (k : Nat) (x : Int) W, (rulesS L i j)[k]? = some x → J ((rulesS L i j).take k) W → YieldAt Fence.wide (n - 1) Try.prog l #[.int .i64 x] W fun e W' =>
      (e = .returned (.bool true) ∧ J ((rulesS L i j).take k ++ [x]) W' ∧ KpH w0 W W') ∨ (e = .returned (.bool false) ∧ Jx ((rulesS L i j).take k ++ [x]) W'))
    (W : World) (hW0 : Nb w0 W) (hJ : AbidesFrom W.heap.size J) (hi : W.cell? ⟨Bi, 0, none⟩ = some (.int .i64 i)) (hj : W.cell? ⟨Bj, 0, none⟩ = some (.int .i64 j)) (hl : W.cell? ⟨Bl, 0, none⟩ = some v) (h0 : J [] W)
    (i0 : -9223372036854775808 ≤ i) (j1 : j < 9223372036854775808) :
    Calls Try.prog 37 #[.func (.yield l) #[] #[], .pointer (some ⟨Bi, 0, none⟩), .pointer (some ⟨Bj, 0, none⟩), .pointer (some ⟨Bl, 0, none⟩)] W fun e W' => (∃ v, e = .returned v) ∧ (J (rulesS L i j) W' ∨ (∃ pre, pre <+: rulesS L i j ∧ Jx pre W')) := by
  have hOW := hO.nb hW0
  obtain ⟨p, c, rfl, hX⟩ := hOW.cases
  have hX' := Lib.hid hX
  obtain ⟨NL, hNL⟩ : ∃ NL, L.length = NL := ⟨_, rfl⟩
  rw [hNL] at hL hl hX'
  have hno : ∀ W', W' = W → rulesS L i j = [] → (J (rulesS L i j) W' ∨ (∃ pre, pre <+: rulesS L i j ∧ Jx pre W')) := fun W' e h => .inl (by rw [e, h]; exact h0)
  have hno' := Lib.hid hno
  by_cases c1 : i < 0
  · have hr := Lib.hid (show rulesS L i j = [] by unfold rulesS; rw [if_neg (by omega)])
    clear hno hX hO hOW hY hNL
    go_enter Try.func37, Try.ntmps37
    go_wp2_with fail
    refine bodyPost_ret (results_none rfl _ _ _) rfl ?_
    exact ⟨⟨_, rfl⟩, hno'.out _ rfl hr.out⟩
  by_cases c2 : j ≤ i
  · have hr := Lib.hid (show rulesS L i j = [] by unfold rulesS; rw [if_neg (by omega)])
    clear hno hX hO hOW hY hNL
    go_enter Try.func37, Try.ntmps37
    go_wp2_with fail
    refine bodyPost_ret (results_none rfl _ _ _) rfl ?_
    exact ⟨⟨_, rfl⟩, hno'.out _ rfl hr.out⟩
  by_cases c3 : (NL : Int) ≤ j
  · have hr := Lib.hid (show rulesS L i j = [] by unfold rulesS; rw [if_neg (by omega)])
    clear hno hX hO hOW hY hNL
    go_enter Try.func37, Try.ntmps37
    go_wp2_with fail
    refine bodyPost_ret (results_none rfl _ _ _) rfl ?_
    exact ⟨⟨_, rfl⟩, hno'.out _ rfl hr.out⟩
  obtain ⟨ni, rfl⟩ : ∃ ni : Nat, i = (ni : Int) := ⟨i.toNat, by omega⟩
  obtain ⟨nj, rfl⟩ : ∃ nj : Nat, j = (nj : Int) := ⟨j.toNat, by omega⟩
  obtain ⟨eb, eo, a, hp, hai, hA, hcap⟩ := hX'.out ni (by omega)
  obtain ⟨eb', eo', b, hp', hbj, hB, -⟩ := hX'.out nj (by omega)
  subst hp
  cases hp'
  have hO0 := Lib.hid hO
  have hAh := Lib.hid hA
  have hBh := Lib.hid hB
  have hai' := Lib.hid hai
  have hbj' := Lib.hid hbj
  have hrs : rulesS L (ni : Int) (nj : Int) = if (movesS a && movesS b) = true then rulesTo a b (midS L ni nj) 13 else [] := by
    unfold rulesS
    rw [if_pos (by omega)]
    simp only [Int.toNat_natCast, hai, hbj]
  have hrs' := Lib.hid hrs
  have b1 : (ni : Int) < (NL : Int) := by omega
  have b2 : (nj : Int) < (NL : Int) := by omega
  have b3 : ni < c := by omega
  have b4 : nj < c := by omega
  have hMA := moves_eq eb (eo + ni * 17) a W hA
  have hMB := moves_eq eb (eo + nj * 17) b W hB
  have hMA' := Lib.hid hMA
  have hMB' := Lib.hid hMB
  clear hrs hMA hMB hX hO hOW hA hB hai hbj hno
  cases hm1 : movesS a with
  | false =>
    have hr := Lib.hid (show rulesS L (ni : Int) (nj : Int) = [] from hrs'.out.trans (by simp [hm1]))
    rw [hm1] at hMA'
    clear hY hNL
    go_enter Try.func37, Try.ntmps37
    go_wp2_with (go_at_call 38; refine (hMA'.out _ ?_).mono ?_; exact rfl; rintro e w' ⟨rfl, rfl⟩)
    refine bodyPost_ret (results_none rfl _ _ _) rfl ?_
    exact ⟨⟨_, rfl⟩, hno'.out _ rfl hr.out⟩
  | true =>
    cases hm2 : movesS b with
    | false =>
      have hr := Lib.hid (show rulesS L (ni : Int) (nj : Int) = [] from hrs'.out.trans (by simp [hm1, hm2]))
      rw [hm1] at hMA'
      rw [hm2] at hMB'
      clear hY hNL
      go_enter Try.func37, Try.ntmps37
      go_wp2_with (first
        | (go_at_call 38; refine (hMA'.out _ ?_).mono ?_; exact rfl; rintro e w' ⟨rfl, rfl⟩)
        | (go_at_call 38; refine (hMB'.out _ ?_).mono ?_; exact rfl; rintro e w' ⟨rfl, rfl⟩))
      refine bodyPost_ret (results_none rfl _ _ _) rfl ?_
      exact ⟨⟨_, rfl⟩, hno'.out _ rfl hr.out⟩
    | true =>
      have hr := Lib.hid (show rulesS L (ni : Int) (nj : Int) = rulesTo a b (midS L ni nj) 13 from hrs'.out.trans (by simp [hm1, hm2]))
      rw [hm1] at hMA'
      rw [hm2] at hMB'
      have hYh := Lib.hid hY
      have hNLh := Lib.hid hNL
      clear hY hno' hrs' hX' hNL
      obtain ⟨m1, hmi⟩ : ∃ m1, ni + 1 = m1 := ⟨_, rfl⟩
      have e1 : IntKind.i64.wrap ((ni : Int) + 1) = (m1 : Int) := by rw [IntKind.wrap_i64]; omega
      have b5 : (m1 : Int) ≤ (nj : Int) := by omega
      have b6 : (nj : Int) ≤ (c : Int) := by omega
      have b5' : m1 ≤ nj := by omega
      have b6' : nj ≤ c := by omega
      have hmi' := Lib.hid hmi
      have hRu := fun w1 => rule_any eb (eo + ni * 17) eb (eo + nj * 17) (some ⟨eb, eo + m1 * 17, none⟩) (nj - m1) (c - m1) w1
      clear hmi
      unfold pairV at hRu
      go_enter Try.func37, Try.ntmps37
      go_upto_region 1 with (first
        | (go_at_call 38; refine (hMA'.out _ ?_).mono ?_; exact rfl; rintro e w' ⟨rfl, rfl⟩)
        | (go_at_call 38; refine (hMB'.out _ ?_).mono ?_; exact rfl; rintro e w' ⟨rfl, rfl⟩))
      have hRu' := Lib.hid hRu
      have b7 : ¬ c = m1 := by omega
      clear hRu
      go_still_tail 12, (by kernel_rfl)
      change wpList _ _ _ _ _ W.drew
      have n2 : Nb W W.drew := (Nb.refl W).drew1
      generalize W.drew = w2 at n2 ⊢
      go_wp2_with (go_at_call 39; refine (hRu'.out _).mono ?_; rintro e w1 ⟨ga, gb, gp, rfl, hn1, r1, r2, r3⟩)
      have n3 := n2.trans hn1
      have hOm : OpsR w1 (.slice (some ⟨eb, eo + m1 * 17, none⟩) (nj - m1) (c - m1)) (midS L ni nj) := by
        have hmi := hmi'.out
        subst hmi
        rcases hO0.out.nb (hW0.trans n3) with ⟨-, eL⟩ | ⟨b9, o9, c9, e, hb9, hc9, hx9⟩
        · have hbad := hai'.out
          rw [eL] at hbad
          simp at hbad
        · injection e with e1 e2 e3
          cases e1
          subst e3
          exact mid_ops hx9 hb9 hc9 (by omega) (by have := hNLh.out; omega)
      have mk : ∀ W', Nb w0 W' → W'.heap[ga]? = some (.cells #[.pointer (some ⟨eb, eo + ni * 17, none⟩)] 56 (0, 0)) → W'.heap[gb]? = some (.cells #[.pointer (some ⟨eb, eo + nj * 17, none⟩)] 56 (0, 0)) →
          W'.heap[gp]? = some (.cells #[.pointer (some ⟨eb, eo + ni * 17, none⟩), .pointer (some ⟨eb, eo + nj * 17, none⟩), .slice (some ⟨eb, eo + m1 * 17, none⟩) (nj - m1) (c - m1)] 67 (0, 0)) →
          RuleW W' ga gb gp eb (eo + ni * 17) eb (eo + nj * 17) (.slice (some ⟨eb, eo + m1 * 17, none⟩) (nj - m1) (c - m1)) a b (midS L ni nj) := by
        intro W' hW' s1 s2 s3
        have hmi := hmi'.out
        subst hmi
        rcases hO0.out.nb hW' with ⟨-, eL⟩ | ⟨b9, o9, c9, e, hb9, hc9, hx9⟩
        · have hbad := hai'.out
          rw [eL] at hbad
          simp at hbad
        · injection e with e1 e2 e3
          cases e1
          subst e3
          exact ⟨s1, s2, s3, hx9 _ _ hai'.out, hx9 _ _ hbj'.out, mid_ops hx9 hb9 hc9 (by omega) (by have := hNLh.out; omega), by unfold midS; rw [List.length_drop, List.length_take]; have := hNLh.out; omega, fun m hm => ⟨(hs m (mid_sub hm)).1, (hs m (mid_sub hm)).2.1⟩, (hs b (List.mem_of_getElem? hbj'.out)).1, (hs b (List.mem_of_getElem? hbj'.out)).2.1, (hs b (List.mem_of_getElem? hbj'.out)).2.2⟩
      have mk' := Lib.hid mk
      have hJ1 := Lib.hid (hJ [] W w1 none h0 ⟨n3.os, n3.tape, n3.output, n3.size, fun k hk _ => Below.block n3 k hk⟩ (fun r e => by cases e))
      have hn0 := Lib.hid (hW0.trans n3)
      have hsz : W.heap.size ≤ w1.heap.size := n3.size
      clear mk hOm n2 n3 hn1
      have r1' := Lib.hid r1
      have r2' := Lib.hid r2
      have r3' := Lib.hid r3
      have hJ' := Lib.hid hJ
      obtain ⟨M, hM⟩ : ∃ M, midS L ni nj = M := ⟨_, rfl⟩
      rw [hM] at hr mk'
      clear r1 r2 r3 hM hJ h0 hi hj hl e1 b1 b2 b3 b4 b5 b6 b5' b6' b7 hm1 hm2 c1 c2 c3 hs hW0 i0 j1
      refine (wpIn_wide (n := n)).1 ?_
      gi_loopw [6] (fun i wr => ∃ k : Nat, k ≤ 13 ∧ i = .int .i64 ((k : Int) + 1) ∧ Hid (J (rulesTo a b M k) wr ∧ KpH w0 w1 wr)) (fun i _ => 14 - (intOf i).toNat)
      case atStart => exact ⟨0, by omega, by simp, Lib.hid ⟨hJ1.out, Below.refl _ _, KpT.refl _ _⟩⟩
      case round =>
        obtain ⟨k, hk, rfl, hK⟩ := hrel
        by_cases hlt : k < 13
        · have hRW := mk'.out wr (Below.trans hn0.out hK.out.2.1) (hK.out.2.2.2 _ _ _ _ rfl r1'.out) (hK.out.2.2.2 _ _ _ _ rfl r2'.out) (hK.out.2.2.2 _ _ _ _ rfl r3'.out)
          have hcall := rule1_all (k + 1) (by omega) (by omega) _ _ _ _ _ _ _ _ _ _ _ wr hRW
          rw [show ((k + 1 : Nat) : Int) = (k : Int) + 1 by omega] at hcall
          have hnx := rulesTo_succ a b M k
          have hpf := rulesTo_prefix a b M (k := k + 1) (m := 13) (by omega)
          have hk13 : (k : Int) + 1 ≤ 13 := by omega
          obtain ⟨R, hR⟩ : ∃ R, ruleB a b M (k + 1) = R := ⟨_, rfl⟩
          rw [hR] at hcall hnx
          have hcall' := Lib.hid hcall
          have hnx' := Lib.hid hnx
          have hpf' := Lib.hid hpf
          clear hRW hcall hnx hpf hR
          cases R with
          | false =>
            gi_wp2
            refine ⟨trivial, (callsIn_wide.2 hcall'.out).mono ?_⟩
            rintro e W6 ⟨rfl, n6⟩
            gi_wp2
            refine ⟨fun _ h => (by cases h), ?_⟩
            gi_wp2
            go_roundw
            case rel =>
              refine ⟨k + 1, by omega, by simp, Lib.hid ⟨?_, hK.out.2.1.trans (Below.mono n6 (Nat.le_trans hn0.out.size hK.out.2.2.1)), hK.out.2.2.trans (KpT.nb n6)⟩⟩
              rw [hnx'.out]
              exact hJ'.out _ wr W6 none hK.out.1 ⟨n6.os, n6.tape, n6.output, n6.size, fun k hk _ => Below.block n6 k hk⟩ (fun r e => by cases e)
            case measure => simp [intOf]; omega
          | true =>
            have hnx2 := Lib.hid (show rulesTo a b M (k + 1) = rulesTo a b M k ++ [(k : Int) + 1] by rw [hnx'.out]; rfl)
            gi_wp2
            refine ⟨trivial, (callsIn_wide.2 hcall'.out).mono ?_⟩
            rintro e W6 ⟨rfl, n6⟩
            have hJ6 := hJ'.out _ wr W6 none hK.out.1 ⟨n6.os, n6.tape, n6.output, n6.size, fun k hk _ => Below.block n6 k hk⟩ (fun r e => by cases e)
            have hK6 := Lib.hid (show KpH w0 w1 W6 from ⟨hK.out.2.1.trans (Below.mono n6 (Nat.le_trans hn0.out.size hK.out.2.2.1)), hK.out.2.2.trans (KpT.nb n6)⟩)
            have hpa := prefix_at (P := rulesTo a b M k) (Q := rulesS L (ni : Int) (nj : Int)) (x := (k : Int) + 1) (by rw [hr.out, ← hnx2.out]; exact hpf'.out)
            have hy0 := hYh.out (rulesTo a b M k).length ((k : Int) + 1) W6 hpa.1 (by rw [hpa.2]; exact hJ6)
            rw [hpa.2] at hy0
            obtain ⟨fn, tmps, assign, body, hy, hRd⟩ := hy0
            clear hpa hJ6
            gi_wp2
            refine hRd.mono ?_
            rintro e W7 (⟨rfl, hJ3, hk3⟩ | ⟨rfl, hJx3⟩)
            · gi_wp2
              go_roundw
              case rel => exact ⟨k + 1, by omega, by simp, Lib.hid ⟨by rw [hnx2.out]; exact hJ3, hK6.out.trans hk3⟩⟩
              case measure => simp [intOf]; omega
            · gi_wp2
              refine bodyPost_ret (results_none rfl _ _ _) rfl ?_
              refine ⟨⟨_, rfl⟩, .inr ⟨_, ?_, hJx3⟩⟩
              rw [hr.out, ← hnx2.out]
              exact hpf'.out
        · obtain rfl : k = 13 := by omega
          have hJe := hK.out.1
          rw [← hr.out] at hJe
          gi_wp2
          go_end0
          exact ⟨⟨_, rfl⟩, .inl hJe⟩
theorem holding_stops (n : Nat) (hn : 1 ≤ n) (Bi Bj Bl : Nat) (i j : Int) (v : Value) (L : List OpD) (w0 : World) (hO : OpsR w0 v L) (hL : L.length ≤ 1000000) (hs : ∀ m ∈ L, ShortOp m) (w : World) (hW0 : Nb w0 w)
    (hi : w.cell? ⟨Bi, 0, none⟩ = some (.int .i64 i)) (hj : w.cell? ⟨Bj, 0, none⟩ = some (.int .i64 j)) (hl : w.cell? ⟨Bl, 0, none⟩ = some v) (i0 : -9223372036854775808 ≤ i) (j1 : j < 9223372036854775808) :
    SeqStopsK Fence.wide n Try.prog 37 #[.pointer (some ⟨Bi, 0, none⟩), .pointer (some ⟨Bj, 0, none⟩), .pointer (some ⟨Bl, 0, none⟩)] (fun x : Int => #[Value.int .i64 x]) (KpH w0) (fun xs => xs = rulesS L i j) (fun pre => pre <+: rulesS L i j) (rulesS L i j).length w := fun l J Jx W hW hJ hJx hY h0 => by
  have hNb : Nb w W := hW
  refine callsIn_wide.2 ((holding1_any n hn l Bi Bj Bl i j v L w0 hO hL hs J Jx (fun k x W1 hx hj1 => hY _ x W1 hj1 ?_) W (hW0.trans hNb) hJ (hNb.cell hi) (hNb.cell hj) (hNb.cell hl) h0 i0 j1).mono ?_)
  · have h2 : k < (rulesS L i j).length := by
      rcases Nat.lt_or_ge k (rulesS L i j).length with h | h
      · exact h
      · rw [List.getElem?_eq_none h] at hx; cases hx
    rw [List.length_take]; omega
  · rintro e W' ⟨hv, hj1 | ⟨pre, hp, hj1⟩⟩
    · exact ⟨hv, .inl ⟨_, rfl, hj1⟩⟩
    · exact ⟨hv, .inr ⟨pre, hp, hj1⟩⟩
end Go.Proofs.Yticifolljhplmaa
