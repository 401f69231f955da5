/-
  Proved here: the iterator over the IDs by which an operation returns its bytes (returned of the code). Conditions: the pointer points at an operation.
-/
import Derived.RangeFuncNested
import Derived.RangeFuncBound
import Derived.RangeFuncCalls
import Derived.RangeFuncLeaves
import Derived.Shelf.Abstract
import Derived.OwnWalkIn
import Derived.TacticsInMore
import Derived.LoopNIn
import Derived.LoopIn
import Derived.Test.YticifolljhplmaaYg
namespace Go.Proofs.Yticifolljhplmaa
open Go.RowKit Go.Sort Go.Shelf
set_option linter.unusedVariables false
set_option linter.unusedSimpArgs false
set_option maxRecDepth 100000
set_option maxHeartbeats 4000000
/-- The IDs by which an operation returns its bytes. -/
def idsS (d : OpD) : List Int := if emptyS (retS d) = true then [] else d.from_.take ((retS d).2 - (retS d).1 + 1).toNat
theorem returned_any (b o : Nat) (w : World) : Calls Try.prog 61 #[.pointer (some ⟨b, o, none⟩)] w fun e w' => e = .returned (.func (.func 65) #[] #[.pointer (some ⟨w.heap.size, 0, none⟩)]) ∧ w' = w.alloc (.cells #[.pointer (some ⟨b, o, none⟩)] 56) := by
  go_enter Try.func61, Try.ntmps61
  go_wp2
  go_ret
  exact ⟨rfl, rfl⟩
theorem ret_facts {d : OpD} (h : d.Ok) (hE : emptyS (retS d) = false) : 1 ≤ (retS d).2 - (retS d).1 + 1 ∧ (retS d).2 - (retS d).1 + 1 ≤ d.from_.length ∧ InS (retS d) ∧ d.load = true := by
  have h1 := span_out d
  have h2 := span_in h
  unfold retS at *
  split at hE <;> rename_i hc
  · simp [emptyS] at hE
  · rw [if_neg hc]
    simp at hc
    obtain ⟨⟨hl, he⟩, hn⟩ := hc
    obtain ⟨z1, z2, z3, z4, z5, z6⟩ := h1 he
    have hln : 0 < d.from_.length := by
      cases hq : d.from_ with
      | nil => exact absurd hq hn
      | cons _ _ => simp
    obtain ⟨i1, i2, i3, i4⟩ := h2
    refine ⟨by simp only; omega, by simp only; omega, ⟨i1, i2, by simp only; omega, by simp only; omega⟩, hl⟩
theorem ret_in {d : OpD} (h : d.Ok) : InS (retS d) := by
  cases hE : emptyS (retS d) with
  | false => exact (ret_facts h hE).2.2.1
  | true =>
    have h2 := span_in h
    have h1 := span_out d
    unfold retS at *
    split at hE <;> rename_i hc
    · rw [if_pos hc]; exact ⟨by decide, by decide, by decide, by decide⟩
    · rw [if_neg hc]
      simp at hc
      obtain ⟨⟨hl, he⟩, hn⟩ := hc
      obtain ⟨z1, z2, z3, z4, z5, z6⟩ := h1 he
      have hln : 0 < d.from_.length := by
        cases hq : d.from_ with
        | nil => exact absurd hq hn
        | cons _ _ => simp
      obtain ⟨i1, i2, i3, i4⟩ := h2
      exact ⟨i1, i2, by simp only; omega, by simp only; omega⟩
attribute [local go_sem] Oper.semAt_some
theorem returned1_any (n : Nat) (hn : 1 ≤ n) (l B n₀ b o : Nat) (d : OpD) (J Jx : List Int → World → Prop)
    (hY : ∀ (k : Nat) (x : Int) W, (idsS d)[k]? = some x → J ((idsS d).take k) W → YieldAt Fence.wide (n - 1) Try.prog l #[.int .i64 x] W fun e W' =>
      (e = .returned (.bool true) ∧ J ((idsS d).take k ++ [x]) W' ∧ Below n₀ W W') ∨ (e = .returned (.bool false) ∧ Jx ((idsS d).take k ++ [x]) W'))
    (W : World) (hW0 : n₀ ≤ W.heap.size) (hJ : AbidesFrom W.heap.size J) (hB : W.cell? ⟨B, 0, none⟩ = some (.pointer (some ⟨b, o, none⟩))) (hO : OpAt W b o d) (hf : ∀ p len cap, d.fv = .slice (some p) len cap → 0 < len → p.block < n₀) (h0 : J [] W) :
    Calls Try.prog 65 #[.func (.yield l) #[] #[], .pointer (some ⟨B, 0, none⟩)] W fun e W' => (∃ v, e = .returned v) ∧ ((∃ xs, xs = idsS d ∧ J xs W') ∨ (∃ pre, pre <+: idsS d ∧ Jx pre W')) := by
  have hR := returnedBy_any b o d W hO
  have hri := ret_in hO.ok
  have hrf := ret_facts hO.ok
  have hfl := hO.ok.fl
  have hids : idsS d = if emptyS (retS d) = true then [] else d.from_.take ((retS d).2 - (retS d).1 + 1).toNat := rfl
  go_enter Try.func65, Try.ntmps65
  generalize retS d = R at *
  obtain ⟨r1, r2⟩ := R
  dsimp only at hR hri hrf hids
  go_upto_region 1 with (go_at_call 59; refine hR.mono ?_; rintro e w1 ⟨rfl, k1⟩)
  obtain ⟨W2, hW⟩ : ∃ W2, w1.alloc (.cells #[.int .u64 r1, .int .u64 r2] 70) = W2 := ⟨_, rfl⟩
  have b2 : W2.heap[w1.heap.size]? = some (.cells #[.int .u64 r1, .int .u64 r2] 70 (0, 0)) := by rw [← hW]; exact new_blk _ _ rfl
  have n2 : Nb W W2 := by rw [← hW]; exact k1.alloc _
  rw [hW]
  clear hW hR k1
  obtain ⟨q0, q1, -, -⟩ := cells2 b2
  have hB2 := n2.cell hB
  cases hE : emptyS (r1, r2) with
  | true =>
    go_wp2_with (go_at_call 41; refine (empty_any _ _ _).mono ?_; rintro e w3 ⟨rfl, k3⟩; rw [hE])
    refine bodyPost_ret (results_none rfl _ _ _) rfl ?_
    rw [hE] at hids
    refine ⟨⟨_, rfl⟩, .inl ⟨[], by rw [hids]; rfl, ?_⟩⟩
    exact hJ [] W w3 none h0 ⟨(n2.trans k3).os, (n2.trans k3).tape, (n2.trans k3).output, (n2.trans k3).size, fun k hk _ => Below.block (n2.trans k3) k hk⟩ (fun r e => by cases e)
  | false =>
    obtain ⟨f1, f2, -, f4⟩ := hrf hE
    simp only [hE, Bool.false_eq_true, if_false] at hids
    obtain ⟨m, hm⟩ : ∃ m : Nat, r2 - r1 + 1 = (m : Int) := ⟨(r2 - r1 + 1).toNat, by omega⟩
    rw [hm] at hids f1 f2
    have hids' : idsS d = d.from_.take m := by rw [hids]; simp
    clear hids
    obtain ⟨i1, i2, i3, i4⟩ := hri
    have e1 : IntKind.u64.wrap (r2 - r1) = r2 - r1 := by rw [IntKind.wrap_u64]; omega
    have e2 : IntKind.u64.wrap (r2 - r1 + 1) = (m : Int) := by rw [IntKind.wrap_u64]; omega
    rcases (hO.nb n2).rf with ⟨_, hnil⟩ | ⟨fb, fo, fc, hfv, hfb, hfc, hfx⟩
    · rw [hnil] at f2; simp at f2; omega
    have hfb0 := hf _ _ _ hfv (by omega)
    have c12 := (hO.nb n2).c12
    rw [hfv] at c12
    have hIds := Lib.hid hids'
    have hfx' := Lib.hid hfx
    have hlm : (idsS d).length = m := by rw [hids', List.length_take]; omega
    obtain ⟨N, hN⟩ : ∃ N, d.from_.length = N := ⟨_, rfl⟩
    rw [hN] at hfl f2 hfc c12
    have hN' := Lib.hid hN
    clear hN hids' hfx hfv hlm hO hrf hf
    go_upto_region 2 with (go_at_call 41; refine (empty_any _ _ _).mono ?_; rintro e w3 ⟨rfl, k3⟩; rw [hE]; have n3 := n2.trans k3; have x0 := k3.cell q0; have x1 := k3.cell q1; have xB := k3.cell hB2; have x12 := k3.cell c12)
    have hmc : (m : Int) ≤ (fc : Int) := by omega
    have hmc2 : m ≤ fc := by omega
    clear hE hB q0 q1 hB2 c12 b2
    go_quiet (fail)
    obtain ⟨W4, e4⟩ : ∃ W4, w3.drewN nq = W4 := ⟨_, rfl⟩
    have n4 : Nb W W4 := by rw [← e4]; exact n3.drewN nq
    rw [e4]
    clear e4 xB x0 x1 x12 k3
    have hJ4 : J [] W4 := hJ [] W W4 none h0 ⟨n4.os, n4.tape, n4.output, n4.size, fun k hk _ => Below.block n4 k hk⟩ (fun r e => by cases e)
    have hNe := hN'.out
    have hcell : ∀ k : Nat, k < m → ∃ x : Int, (idsS d)[k]? = some x ∧ ∀ wr, Below n₀ W4 wr → wr.cell? ⟨fb, fo + k, none⟩ = some (.int .i64 x) := by
      intro k hk
      have hx : d.from_[k]? = some d.from_[k] := List.getElem?_eq_getElem (by omega)
      refine ⟨d.from_[k], ?_, fun wr hb => ?_⟩
      · rw [hIds.out, List.getElem?_take]; simp [hk, hx]
      · have h1 := hfx'.out k _ hx
        have h2 : W4.cell? ⟨fb, fo + k, none⟩ = some (.int .i64 d.from_[k]) := by
          have h3 : W.cell? ⟨fb, fo + k, none⟩ = some (.int .i64 d.from_[k]) := (Below.cell n2 (p := ⟨fb, fo + k, none⟩) (Nat.lt_of_lt_of_le hfb0 hW0)).symm.trans h1
          exact n4.cell h3
        exact (hb.cell (p := ⟨fb, fo + k, none⟩) hfb0).trans h2
    have hlen : (idsS d).length = m := by rw [hIds.out, List.length_take]; omega
    have hcell' := Lib.hid hcell
    have hlen' := Lib.hid hlen
    clear hNe hcell hlen
    go_wp2_with fail
    refine (wpIn_wide (n := n)).1 ?_
    gi_loopw [22] (fun i wr => ∃ k : Nat, k ≤ m ∧ i = .int .i64 k ∧ J ((idsS d).take k) wr ∧ Below n₀ W4 wr) (fun i _ => m - (intOf i).toNat)
    case atStart => exact ⟨0, Nat.zero_le _, rfl, by simpa using hJ4, Below.refl _ _⟩
    case round =>
      obtain ⟨k, hk, rfl, hJs, hnx⟩ := hrel
      by_cases hlt : k < m
      · obtain ⟨x, hx, hc⟩ := hcell'.out k hlt
        have hcx := hc wr hnx
        have htk : (idsS d).take (k + 1) = (idsS d).take k ++ [x] := by rw [List.take_add_one, hx]; rfl
        obtain ⟨fn, tmps, assign, body, hy, hR⟩ := hY k x wr hx hJs
        have htk' := Lib.hid htk
        clear htk hx hc
        gi_wp2
        refine hR.mono ?_
        rintro e W5 (⟨rfl, hJ3, hk3⟩ | ⟨rfl, hJx3⟩)
        · gi_wp2
          go_roundw
          case rel => exact ⟨k + 1, by omega, by simp, by rw [htk'.out]; exact hJ3, hnx.trans hk3⟩
          case measure => simp [intOf]; omega
        · gi_wp2
          refine bodyPost_ret (results_none rfl _ _ _) rfl ?_
          exact ⟨⟨_, rfl⟩, .inr ⟨_, List.take_prefix (k + 1) _, by rw [htk'.out]; exact hJx3⟩⟩
      · obtain rfl : k = m := by omega
        have hall : (idsS d).take k = idsS d := by rw [← hlen'.out, List.take_length]
        rw [hall] at hJs
        gi_wp2
        go_end0
        exact ⟨⟨_, rfl⟩, .inl ⟨_, rfl, hJs⟩⟩
/-- An int of 64 bits. -/
abbrev I64 := { x : Int // -9223372036854775808 ≤ x ∧ x < 9223372036854775808 }
theorem ids_in {d : OpD} (h : d.Ok) {k : Nat} {x : Int} (hx : (idsS d)[k]? = some x) : -9223372036854775808 ≤ x ∧ x < 9223372036854775808 := by
  have hm := List.mem_of_getElem? hx
  unfold idsS at hm
  split at hm
  · simp at hm
  · exact h.fr x (List.mem_of_mem_take hm)
/-- **returned hands back a value that ranges over the IDs**: all of them, in order, or a part. -/
theorem returned_stops (n : Nat) (hn : 1 ≤ n) (B n₀ b o : Nat) (d : OpD) (w : World) (hB : w.cell? ⟨B, 0, none⟩ = some (.pointer (some ⟨b, o, none⟩))) (hO : OpAt w b o d) (hf : ∀ p len cap, d.fv = .slice (some p) len cap → 0 < len → p.block < n₀) (hW0 : n₀ ≤ w.heap.size) :
    SeqStopsK Fence.wide n Try.prog 65 #[.pointer (some ⟨B, 0, none⟩)] (fun x : I64 => #[Value.int .i64 x.1]) (Below n₀) (fun xs => xs.map (·.1) = idsS d) (fun pre => pre.map (·.1) <+: idsS d) (idsS d).length w := fun l J Jx W hW hJ hJx hY h0 => by
  refine callsIn_wide.2 ((returned1_any n hn l B n₀ b o d (fun ys W => ∃ xs : List I64, xs.map (·.1) = ys ∧ J xs W) (fun ys W => ∃ xs : List I64, xs.map (·.1) = ys ∧ Jx xs W) ?_ W (Nat.le_trans hW0 hW.size) ?_ (Nb.cell (a := w) hW hB) (hO.nb hW) hf ⟨[], rfl, h0⟩).mono ?_)
  · rintro k x W1 hx ⟨xs, hxs, hj⟩
    have hl : xs.length < (idsS d).length := by
      have h1 : xs.length = ((idsS d).take k).length := by rw [← hxs, List.length_map]
      have h2 : k < (idsS d).length := by
        rcases Nat.lt_or_ge k (idsS d).length with h | h
        · exact h
        · rw [List.getElem?_eq_none h] at hx; cases hx
      rw [h1, List.length_take]; omega
    obtain ⟨fn, tmps, assign, body, hy, hR⟩ := hY xs ⟨x, ids_in hO.ok hx⟩ W1 hj hl
    refine ⟨fn, tmps, assign, body, hy, hR.mono ?_⟩
    rintro e W' (⟨h1, h2, h3⟩ | ⟨h1, h2⟩)
    · exact .inl ⟨h1, ⟨_, by rw [List.map_append, hxs]; rfl, h2⟩, h3⟩
    · exact .inr ⟨h1, ⟨_, by rw [List.map_append, hxs]; rfl, h2⟩⟩
  · rintro ys W1 W2 row ⟨xs, hxs, hj⟩ hg hr
    exact ⟨xs, hxs, hJ xs W1 W2 row hj hg hr⟩
  · rintro e W' ⟨hv, ⟨ys, hys, xs, hxs, hj⟩ | ⟨pre, hp, xs, hxs, hj⟩⟩
    · exact ⟨hv, .inl ⟨xs, hxs.trans hys, hj⟩⟩
    · exact ⟨hv, .inr ⟨xs, by show xs.map (·.1) <+: idsS d; rw [hxs]; exact hp, hj⟩⟩
end Go.Proofs.Yticifolljhplmaa
