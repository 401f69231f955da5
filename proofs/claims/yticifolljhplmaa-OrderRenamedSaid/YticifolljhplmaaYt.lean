/-
  Proved here: Light of the statements. Conditions: the slice holds operations, of whatever sizes.
-/
import Derived.Test.YticifolljhplmaaYs
namespace Go.Proofs.Yticifolljhplmaa
open Go.RowKit
set_option linter.unusedVariables false
set_option linter.unusedSimpArgs false
set_option maxRecDepth 100000
set_option maxHeartbeats 4000000
/-- Its numbers are words; of its lists nothing is known but that they are no longer than a slice is. -/
structure OpD.Word (d : OpD) : Prop where
  a0 : 0 ≤ d.addr
  a1 : d.addr < 18446744073709551616
  s0 : -9223372036854775808 ≤ d.size
  s1 : d.size < 9223372036854775808
  i0 : -9223372036854775808 ≤ d.id
  i1 : d.id < 9223372036854775808
  fr : ∀ x ∈ d.from_, -9223372036854775808 ≤ x ∧ x < 9223372036854775808
  l0 : d.from_.length ≤ 9223372036854775807
  l1 : d.addrs.length ≤ 9223372036854775807
  l2 : d.datas.length ≤ 9223372036854775807
  l3 : d.ctrls.length ≤ 9223372036854775807
def lightB (d : OpD) : Bool := decide (d.from_.length ≤ 20) && decide (d.addrs.length ≤ 60) && decide (d.datas.length ≤ 60) && decide (d.ctrls.length ≤ 60)
/-- It stands at a place; its lists may be long. -/
structure OpAt0 (w : World) (b o : Nat) (d : OpD) : Prop where
  lt : b < w.heap.size
  c0 : w.cell? ⟨b, o, none⟩ = some (.int .i64 d.id)
  c1 : w.cell? ⟨b, o + 1, none⟩ = some (.bool d.load)
  c2 : w.cell? ⟨b, o + 2, none⟩ = some (.bool d.store)
  c3 : w.cell? ⟨b, o + 3, none⟩ = some (.bool d.fence)
  c4 : w.cell? ⟨b, o + 4, none⟩ = some (.int .u64 d.addr)
  c5 : w.cell? ⟨b, o + 5, none⟩ = some (.int .i64 d.size)
  c6 : w.cell? ⟨b, o + 6, none⟩ = some (.bool d.aq)
  c7 : w.cell? ⟨b, o + 7, none⟩ = some (.bool d.rl)
  c8 : w.cell? ⟨b, o + 8, none⟩ = some (.int .i64 d.pred)
  c9 : w.cell? ⟨b, o + 9, none⟩ = some (.int .i64 d.succ)
  c10 : w.cell? ⟨b, o + 10, none⟩ = some (.int .u64 d.value)
  c11 : w.cell? ⟨b, o + 11, none⟩ = some (.int .u64 d.stored)
  c12 : w.cell? ⟨b, o + 12, none⟩ = some d.fv
  c13 : w.cell? ⟨b, o + 13, none⟩ = some (.int .i64 d.pair)
  c14 : w.cell? ⟨b, o + 14, none⟩ = some d.av
  c15 : w.cell? ⟨b, o + 15, none⟩ = some d.dv
  c16 : w.cell? ⟨b, o + 16, none⟩ = some d.cv
  rf : IntsR w d.fv d.from_
  ra : IntsR w d.av d.addrs
  rd : IntsR w d.dv d.datas
  rc : IntsR w d.cv d.ctrls
  ok : d.Word
theorem OpAt0.nb {w w' : World} {b o : Nat} {d : OpD} (h : OpAt0 w b o d) (k : Nb w w') : OpAt0 w' b o d :=
  ⟨Nat.lt_of_lt_of_le h.lt k.size, k.cell h.c0, k.cell h.c1, k.cell h.c2, k.cell h.c3, k.cell h.c4, k.cell h.c5, k.cell h.c6, k.cell h.c7, k.cell h.c8, k.cell h.c9, k.cell h.c10, k.cell h.c11, k.cell h.c12, k.cell h.c13, k.cell h.c14, k.cell h.c15, k.cell h.c16, h.rf.nb k, h.ra.nb k, h.rd.nb k, h.rc.nb k, h.ok⟩
theorem OpAt0.light {w : World} {b o : Nat} {d : OpD} (h : OpAt0 w b o d) (hl : d.from_.length ≤ 20) : OpAt w b o d :=
  ⟨h.lt, h.c0, h.c1, h.c2, h.c3, h.c4, h.c5, h.c6, h.c7, h.c8, h.c9, h.c10, h.c11, h.c12, h.c13, h.c14, h.c15, h.c16, h.rf, h.ra, h.rd, h.rc, ⟨h.ok.a0, h.ok.a1, h.ok.s0, h.ok.s1, hl, h.ok.i0, h.ok.i1, h.ok.fr⟩⟩
/-- A slice of operations that may be great. -/
def OpsR0 (w : World) (v : Value) (l : List OpD) : Prop :=
  ((∃ (p : Option Addr) (c : Nat), v = .slice p 0 c) ∧ l = []) ∨ ∃ b o c : Nat, v = .slice (some ⟨b, o, none⟩) l.length c ∧ b < w.heap.size ∧ l.length ≤ c ∧ ∀ (i : Nat) (d : OpD), l[i]? = some d → OpAt0 w b (o + i * 17) d
theorem OpsR0.nb {w w' : World} {v : Value} {l : List OpD} (h : OpsR0 w v l) (k : Nb w w') : OpsR0 w' v l := by
  rcases h with h | ⟨b, o, c, hv, hb, hc, hx⟩
  · exact .inl h
  · exact .inr ⟨b, o, c, hv, Nat.lt_of_lt_of_le hb k.size, hc, fun i x hi => (hx i x hi).nb k⟩
def LightS (l : List OpD) : Bool := decide (l.length ≤ 60) && l.all lightB
theorem OpsR0.light {w : World} {v : Value} {l : List OpD} (h : OpsR0 w v l) (hl : LightS l = true) : OpsR w v l := by
  unfold LightS at hl
  simp only [Bool.and_eq_true, decide_eq_true_eq, List.all_eq_true] at hl
  rcases h with h | ⟨b, o, c, hv, hb, hc, hx⟩
  · exact .inl h
  · refine .inr ⟨b, o, c, hv, hb, hc, fun i x hi => (hx i x hi).light ?_⟩
    have := hl.2 x (List.mem_of_getElem? hi)
    unfold lightB at this
    simp only [Bool.and_eq_true, decide_eq_true_eq] at this
    exact this.1.1.1
theorem OpsR0.cases {w : World} {v : Value} {l : List OpD} (h : OpsR0 w v l) : ∃ (p : Option Addr) (c : Nat), v = .slice p l.length c ∧ ∀ i : Nat, i < l.length → ∃ (b o : Nat) (d : OpD), p = some ⟨b, o, none⟩ ∧ l[i]? = some d ∧ OpAt0 w b (o + i * 17) d ∧ l.length ≤ c := by
  rcases h with ⟨⟨p, c, rfl⟩, rfl⟩ | ⟨b, o, c, rfl, hb, hc, hx⟩
  · exact ⟨p, c, rfl, fun i hi => by simp at hi⟩
  · exact ⟨_, c, rfl, fun i hi => ⟨b, o, l[i], rfl, by simp [hi], hx i _ (by simp [hi]), hc⟩⟩
theorem light_any (v : Value) (l : List OpD) (w : World) (h : OpsR0 w v l) (hb : l.length ≤ 9223372036854775807) :
    Calls Try.prog 9 #[v] w fun e w' => e = .returned (.bool (LightS l)) ∧ Nb w w' := by
  obtain ⟨p, c, rfl, hX⟩ := h.cases
  have hX' := Lib.hid hX
  obtain ⟨n, hn⟩ : ∃ n, l.length = n := ⟨_, rfl⟩
  have hLS := Lib.hid (show LightS l = (decide (l.length ≤ 60) && l.all lightB) from rfl)
  rw [hn] at hb ⊢
  have hn' := Lib.hid hn
  clear h hX hn
  go_enter Try.func9, Try.ntmps9
  by_cases hl : n ≤ 60
  · go_wp2_with fail
    go_loopw [10] (fun i wr => ∃ k : Nat, k ≤ n ∧ i = .int .i64 k ∧ Hid ((l.take k).all lightB = true) ∧ Nb w wr) (fun i _ => n - (intOf i).toNat)
    case atStart => exact ⟨0, Nat.zero_le _, rfl, Lib.hid (by simp), Nb.refl w⟩
    case round =>
      obtain ⟨k, hk, rfl, hG, hN⟩ := hrel
      by_cases hlt : k < n
      · obtain ⟨b, o, d, rfl, hd, hO, hcap⟩ := hX'.out k (by rw [hn'.out]; exact hlt)
        have hd' := Lib.hid hd
        clear hd
        have hcap' : k < c := by have := hn'.out; omega
        have hO' := hO.nb hN
        obtain ⟨h0, o0, o1, o2, o3, o4, o5, o6, o7, o8, o9, o10, o11, o12, o13, o14, o15, o16, rf, ra, rd, rc, -⟩ := hO'
        have hw := hO.ok
        clear hO
        obtain ⟨p1, c1, e1⟩ := rf.cases
        obtain ⟨p2, c2, e2⟩ := ra.cases
        obtain ⟨p3, c3, e3⟩ := rd.cases
        obtain ⟨p4, c4, e4⟩ := rc.cases
        clear rf ra rd rc
        rw [e1] at o12
        rw [e2] at o14
        rw [e3] at o15
        rw [e4] at o16
        have hv := Lib.hid (show lightB d = (decide (d.from_.length ≤ 20) && decide (d.addrs.length ≤ 60) && decide (d.datas.length ≤ 60) && decide (d.ctrls.length ≤ 60)) from rfl)
        have l0 := hw.l0
        have l1 := hw.l1
        have l2 := hw.l2
        have l3 := hw.l3
        clear hw e1 e2 e3 e4
        generalize d.from_.length = m1 at *
        generalize d.addrs.length = m2 at *
        generalize d.datas.length = m3 at *
        generalize d.ctrls.length = m4 at *
        go_upto_region 6 with (fail)
        have e1 : IntKind.i64.wrap ((k : Int) + 1) = ((k + 1 : Nat) : Int) := by rw [IntKind.wrap_i64]; omega
        obtain ⟨wn, hwn⟩ : ∃ wn, wr.alloc (.cells #[.int .i64 d.id, .bool d.load, .bool d.store, .bool d.fence, .int .u64 d.addr, .int .i64 d.size, .bool d.aq, .bool d.rl, .int .i64 d.pred, .int .i64 d.succ, .int .u64 d.value, .int .u64 d.stored, .slice p1 m1 c1, .int .i64 d.pair, .slice p2 m2 c2, .slice p3 m3 c3, .slice p4 m4 c4] 32) = wn := ⟨_, rfl⟩
        have hN2 : Nb w wn := by rw [← hwn]; exact hN.alloc _
        have hblk := new_blk wr (.cells #[.int .i64 d.id, .bool d.load, .bool d.store, .bool d.fence, .int .u64 d.addr, .int .i64 d.size, .bool d.aq, .bool d.rl, .int .i64 d.pred, .int .i64 d.succ, .int .u64 d.value, .int .u64 d.stored, .slice p1 m1 c1, .int .i64 d.pair, .slice p2 m2 c2, .slice p3 m3 c3, .slice p4 m4 c4] 32) rfl
        rw [hwn] at hblk
        have x12 := cell_of_row _ _ 12 _ _ _ hblk
        have x14 := cell_of_row _ _ 14 _ _ _ hblk
        have x15 := cell_of_row _ _ 15 _ _ _ hblk
        have x16 := cell_of_row _ _ 16 _ _ _ hblk
        replace x12 : wn.cell? ⟨wr.heap.size, 12, none⟩ = some (.slice p1 m1 c1) := x12
        replace x14 : wn.cell? ⟨wr.heap.size, 14, none⟩ = some (.slice p2 m2 c2) := x14
        replace x15 : wn.cell? ⟨wr.heap.size, 15, none⟩ = some (.slice p3 m3 c3) := x15
        replace x16 : wn.cell? ⟨wr.heap.size, 16, none⟩ = some (.slice p4 m4 c4) := x16
        rw [hwn]
        clear hblk hwn
        by_cases g1 : m1 ≤ 20
        · by_cases g2 : m2 ≤ 60
          · by_cases g3 : m3 ≤ 60
            · by_cases g4 : m4 ≤ 60
              · go_wp2_with fail
                go_roundw
                case rel =>
                  refine ⟨k + 1, hlt, by simp, Lib.hid ?_, hN2⟩
                  rw [← List.take_append_getElem (by rw [hn'.out]; exact hlt), List.all_append, hG.out]
                  have : l[k]'(by rw [hn'.out]; exact hlt) = d := by
                    have := hd'.out
                    rw [List.getElem?_eq_getElem (by rw [hn'.out]; exact hlt)] at this
                    exact Option.some.inj this
                  simp [this, hv.out, g1, g2, g3, g4]
                case measure => simp [intOf, e1]; omega
              · go_wp2_with fail
                go_ret
                have hb : lightB d = false := by rw [hv.out]; simp [*]
                have : LightS l = false := by
                  rw [hLS.out]
                  have : l.all lightB = false := by
                    rw [List.all_eq_false]
                    exact ⟨d, List.mem_of_getElem? hd'.out, by rw [hb]; simp⟩
                  simp [this]
                rw [this]
                exact ⟨rfl, hN2⟩
            · go_wp2_with fail
              go_ret
              have hb : lightB d = false := by rw [hv.out]; simp [*]
              have : LightS l = false := by
                rw [hLS.out]
                have : l.all lightB = false := by
                  rw [List.all_eq_false]
                  exact ⟨d, List.mem_of_getElem? hd'.out, by rw [hb]; simp⟩
                simp [this]
              rw [this]
              exact ⟨rfl, hN2⟩
          · go_wp2_with fail
            go_ret
            have hb : lightB d = false := by rw [hv.out]; simp [*]
            have : LightS l = false := by
              rw [hLS.out]
              have : l.all lightB = false := by
                rw [List.all_eq_false]
                exact ⟨d, List.mem_of_getElem? hd'.out, by rw [hb]; simp⟩
              simp [this]
            rw [this]
            exact ⟨rfl, hN2⟩
        · go_wp2_with fail
          go_ret
          have hb : lightB d = false := by rw [hv.out]; simp [*]
          have : LightS l = false := by
            rw [hLS.out]
            have : l.all lightB = false := by
              rw [List.all_eq_false]
              exact ⟨d, List.mem_of_getElem? hd'.out, by rw [hb]; simp⟩
            simp [this]
          rw [this]
          exact ⟨rfl, hN2⟩
      · have hkn : k = n := by omega
        subst hkn
        go_wp2_with fail
        go_ret
        have hno := hG.out
        rw [← hn'.out, List.take_length] at hno
        have : LightS l = true := by
          rw [hLS.out, hno]
          simp [hn'.out, hl]
        rw [this]
        exact ⟨rfl, hN⟩
  · go_wp2_with fail
    go_ret
    have : LightS l = false := by
      rw [hLS.out]
      simp [hn'.out, hl]
    rw [this]
    exact ⟨rfl, Nb.refl w⟩
end Go.Proofs.Yticifolljhplmaa
