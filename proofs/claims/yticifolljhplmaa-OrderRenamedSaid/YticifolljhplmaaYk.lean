/-
  Proved here: the iterator over those of some bytes to which none of some operations stores (bare of the code). Conditions: there are at most a thousand bytes and a million operations.
-/
import Derived.Test.YticifolljhplmaaYh
import Derived.RangeFuncFrom
namespace Go.Proofs.Yticifolljhplmaa
open Go.RowKit Go.Sort Go.Shelf
set_option linter.unusedVariables false
set_option linter.unusedSimpArgs false
set_option maxRecDepth 100000
set_option maxHeartbeats 4000000
/-- What a round keeps: cells of some types. -/
def KpT (T : TypeId → Bool) (W W' : World) : Prop :=
  W.heap.size ≤ W'.heap.size ∧ ∀ (j : Nat) (cs : Array Value) (t : TypeId) (fr : Nat × Nat), T t = true → W.heap[j]? = some (Obj.cells cs t fr) → W'.heap[j]? = some (Obj.cells cs t fr)
theorem KpT.refl (T : TypeId → Bool) (W : World) : KpT T W W := ⟨Nat.le_refl _, fun _ _ _ _ _ h => h⟩
theorem KpT.trans {T : TypeId → Bool} {A B C : World} (h : KpT T A B) (k : KpT T B C) : KpT T A C := ⟨Nat.le_trans h.1 k.1, fun j cs t fr ht hj => k.2 j cs t fr ht (h.2 j cs t fr ht hj)⟩
theorem KpT.nb {T : TypeId → Bool} {A B : World} (h : Nb A B) : KpT T A B := ⟨h.size, fun j cs t fr _ hj => h.block hj⟩
theorem KpT.putObj {T : TypeId → Bool} {W : World} {l : Nat} {o : Obj} (o' : Obj) (h : W.heap[l]? = some o) (hc : o.isCells = false) : KpT T W (W.putObj l o') := by
  refine ⟨(grownBy_putObj' W l o').size, fun j cs t fr _ hj => ?_⟩
  by_cases e : j = l
  · subst e; rw [h] at hj; cases hj; cases hc
  · exact (World.putObj_heap_other e).trans hj
theorem KpT.setCell {T : TypeId → Bool} {A B : World} (h : KpT T A B) {g k : Nat} {cs0 : Array Value} {t0 : TypeId} {fr0 : Nat × Nat} (hb : B.heap[g]? = some (.cells cs0 t0 fr0)) (ht : T t0 = false) (v : Value) : KpT T A (B.setCell ⟨g, k, none⟩ v) := by
  refine ⟨Nat.le_trans h.1 (by simp [World.setCell]), fun j cs t fr hT hj => ?_⟩
  have h2 := h.2 j cs t fr hT hj
  by_cases e : j = g
  · subst e; rw [hb] at h2; cases h2; rw [ht] at hT; cases hT
  · exact (Below.heap_setCell _ _ _ _ e).trans h2
theorem bare_any (x y : Int) (p : Option Addr) (n c : Nat) (w : World) : Calls Try.prog 60 #[.agg #[.int .u64 x, .int .u64 y], .slice p n c] w fun e w' => e = .returned (.func (.func 64) #[] #[.pointer (some ⟨w.heap.size, 0, none⟩), .pointer (some ⟨w.heap.size + 1, 0, none⟩)]) ∧ w' = (w.alloc (.cells #[.int .u64 x, .int .u64 y] 70)).alloc (.cells #[.slice p n c] 22) := by
  go_enter Try.func60, Try.ntmps60
  go_wp2
  go_ret
  exact ⟨rfl, rfl⟩
/-- One operation more in the list of changes. -/
def updS (s : Int × Int) (ch : List Int) (o : OpD) : List Int :=
  if (o.store && !emptyS (comS s (spanS o))) = true then
    let i := ((comS s (spanS o)).1 - s.1).toNat
    let j := ((comS s (spanS o)).2 - s.1 + 1).toNat
    let c1 := ch.set i (wrap64 (ch.getD i 0 + 1))
    c1.set j (wrap64 (c1.getD j 0 - 1))
  else ch
def lenS (s : Int × Int) : Nat := (s.2 - s.1 + 1).toNat
def chgS (s : Int × Int) (l : List OpD) : List Int := l.foldl (updS s) (List.replicate (lenS s + 1) 0)
def sumS (ch : List Int) : Nat → Int
  | 0 => 0
  | k + 1 => wrap64 (sumS ch k + ch.getD k 0)
/-- Those of the first k bytes to which none of the operations stores. -/
def bareTo (s : Int × Int) (l : List OpD) (k : Nat) : List Int := ((List.range k).filter fun i => sumS (chgS s l) (i + 1) == 0).map fun (i : Nat) => s.1 + (i : Int)
def bareS (s : Int × Int) (l : List OpD) : List Int := if emptyS s = true then [] else bareTo s l (lenS s)
theorem updS_len (s : Int × Int) (ch : List Int) (o : OpD) : (updS s ch o).length = ch.length := by
  unfold updS
  split <;> simp
theorem chgS_len (s : Int × Int) (l : List OpD) : (chgS s l).length = lenS s + 1 := by
  unfold chgS
  have : ∀ (l : List OpD) (ch : List Int), (l.foldl (updS s) ch).length = ch.length := by
    intro l
    induction l with
    | nil => intro ch; rfl
    | cons o l ih => intro ch; rw [List.foldl_cons, ih, updS_len]
  rw [this]
  simp
theorem bareTo_succ (s : Int × Int) (l : List OpD) (k : Nat) : bareTo s l (k + 1) = if (sumS (chgS s l) (k + 1) == 0) = true then bareTo s l k ++ [s.1 + (k : Int)] else bareTo s l k := by
  unfold bareTo
  rw [List.range_succ, List.filter_append, List.map_append]
  by_cases h : (sumS (chgS s l) (k + 1) == 0) = true
  · simp [List.filter_cons, h]
  · simp [List.filter_cons, h]
theorem bareTo_prefix (s : Int × Int) (l : List OpD) {k m : Nat} (h : k ≤ m) : bareTo s l k <+: bareTo s l m := by
  induction m with
  | zero => obtain rfl : k = 0 := by omega
            exact List.prefix_refl _
  | succ m ih =>
    rcases Nat.lt_or_ge k (m + 1) with h1 | h1
    · refine (ih (by omega)).trans ?_
      rw [bareTo_succ]
      split
      · exact List.prefix_append _ _
      · exact List.prefix_refl _
    · obtain rfl : k = m + 1 := by omega
      exact List.prefix_refl _
theorem chgS_succ (s : Int × Int) {l : List OpD} {k : Nat} {m : OpD} (h : l[k]? = some m) : chgS s (l.take (k + 1)) = updS s (chgS s (l.take k)) m := by
  unfold chgS
  rw [List.take_add_one, h]
  simp
def intsV (xs : List Int) : List Value := xs.map (Value.int .i64)
theorem intsV_replicate (n : Nat) : (intsV (List.replicate n 0)).toArray = Array.replicate n (Value.int .i64 0) := by
  unfold intsV
  simp
theorem info_int : (Try.prog.info? 3).map (fun i => (i.zero, i.size, i.bytes)) = some (some (.int .i64 0), 1, 8) := by kernel_rfl
theorem madeCells_int (n : Nat) : madeCells (Value.int .i64 0).cells n = (intsV (List.replicate n 0)).toArray := by
  rw [intsV_replicate]
  apply Array.ext
  · rw [size_madeCells]; simp
  · intro i h1 h2
    unfold madeCells
    simp [Value.cells, Nat.mod_one]
/-- What the region of a round needs. -/
def SB (wr : World) (B1 B2 : Nat) (x y v : Value) (w' : World) : Prop := Nb wr w' ∧ w'.cell? ⟨B1, 0, none⟩ = some x ∧ w'.cell? ⟨B1, 1, none⟩ = some y ∧ w'.cell? ⟨B2, 0, none⟩ = some v
theorem SB.keep {wr wc w' : World} {B1 B2 : Nat} {x y v : Value} (k : Nb wc w') (h : SB wr B1 B2 x y v wc) : SB wr B1 B2 x y v w' := ⟨h.1.trans k, k.cell h.2.1, k.cell h.2.2.1, k.cell h.2.2.2⟩
theorem SB.set {wr wc : World} {B1 B2 : Nat} {x y v : Value} (h : SB wr B1 B2 x y v wc) (h1 : B1 < wr.heap.size) (h2 : B2 < wr.heap.size) {g o : Nat} (hg : wr.heap.size ≤ g) (u : Value) : SB wr B1 B2 x y v (wc.setCell ⟨g, o, none⟩ u) :=
  ⟨h.1.setCell hg u, ((h.1.setCell (p := ⟨g, o, none⟩) hg u |> fun k => Below.cell k (p := ⟨B1, 0, none⟩) h1).trans ((Below.cell h.1 (p := ⟨B1, 0, none⟩) h1).symm)).trans h.2.1,
   ((h.1.setCell (p := ⟨g, o, none⟩) hg u |> fun k => Below.cell k (p := ⟨B1, 1, none⟩) h1).trans ((Below.cell h.1 (p := ⟨B1, 1, none⟩) h1).symm)).trans h.2.2.1,
   ((h.1.setCell (p := ⟨g, o, none⟩) hg u |> fun k => Below.cell k (p := ⟨B2, 0, none⟩) h2).trans ((Below.cell h.1 (p := ⟨B2, 0, none⟩) h2).symm)).trans h.2.2.2⟩
theorem SB.realloc {wr wc : World} {B1 B2 : Nat} {x y v : Value} {o : Obj} (h : SB wr B1 B2 x y v (wc.alloc o)) (h1 : B1 < wr.heap.size) (h2 : B2 < wr.heap.size) (hg : wr.heap.size ≤ wc.heap.size) (o' : Obj) : SB wr B1 B2 x y v (wc.alloc o') := by
  have e : ∀ (o : Obj) (j : Nat), j < wc.heap.size → (wc.alloc o).heap[j]? = wc.heap[j]? := fun o j hj => Below.heap_alloc wc o j hj
  have hb : Nb wr (wc.alloc o') := ⟨h.1.os, h.1.tape, h.1.output, by simp; omega, fun j hj => (e o' j (by omega)).trans ((e o j (by omega)).symm.trans (Below.block h.1 j hj))⟩
  exact ⟨hb, (Below.cell hb (p := ⟨B1, 0, none⟩) h1).trans ((Below.cell h.1 (p := ⟨B1, 0, none⟩) h1).symm.trans h.2.1), (Below.cell hb (p := ⟨B1, 1, none⟩) h1).trans ((Below.cell h.1 (p := ⟨B1, 1, none⟩) h1).symm.trans h.2.2.1), (Below.cell hb (p := ⟨B2, 0, none⟩) h2).trans ((Below.cell h.1 (p := ⟨B2, 0, none⟩) h2).symm.trans h.2.2.2)⟩
theorem finB {wr w2 : World} {g : Nat} {a b : Value} {T : TypeId} (n2 : Nb wr w2) (hb : w2.heap[g]? = some (.cells #[a, b] T (0, 0))) (hg : wr.heap.size ≤ g) (x y : Value) :
    ∃ W7, (w2.setCell ⟨g, 0, none⟩ x).setCell ⟨g, 1, none⟩ y = W7 ∧ Nb wr W7 ∧ W7.heap[g]? = some (.cells #[x, y] T (0, 0)) ∧ wr.heap.size ≤ g :=
  ⟨_, rfl, (n2.setCell hg _).setCell hg _, set2 hb x y, hg⟩
theorem finA {wr w2 : World} (n2 : Nb wr w2) (x y : Value) (T : TypeId) : ∃ W7, w2.alloc (.cells #[x, y] T) = W7 ∧ Nb wr W7 ∧ W7.heap[w2.heap.size]? = some (.cells #[x, y] T (0, 0)) ∧ wr.heap.size ≤ w2.heap.size :=
  ⟨_, rfl, n2.alloc _, new_blk w2 _ rfl, n2.size⟩
theorem ints_cell {w : World} {cb i : Nat} {ch : List Int} {T : TypeId} (h : w.heap[cb]? = some (.cells (intsV ch).toArray T (0, 0))) (hi : i < ch.length) : w.cell? ⟨cb, i, none⟩ = some (.int .i64 (ch.getD i 0)) := by
  rw [cell_of_row _ _ i _ _ _ h]
  simp [intsV, hi, List.getD_eq_getElem?_getD]
theorem ints_set {w : World} {cb i : Nat} {ch : List Int} {T : TypeId} (h : w.heap[cb]? = some (.cells (intsV ch).toArray T (0, 0))) (x : Int) : (w.setCell ⟨cb, i, none⟩ (.int .i64 x)).heap[cb]? = some (.cells (intsV (ch.set i x)).toArray T (0, 0)) := by
  rw [set_blk h]
  congr 3
  simp [intsV, List.map_set]
attribute [local go_sem] Oper.semAt_some
theorem bare1_any (n : Nat) (hn : 1 ≤ n) (l B1 B2 : Nat) (s1 s2 : Int) (hs : InS (s1, s2)) (hlen : s2 - s1 + 1 ≤ 1000) (v : Value) (L : List OpD) (hL : L.length ≤ 1000000) (J Jx : List Int → World → Prop)
    (hY : ∀ (k : Nat) W, k < lenS (s1, s2) → sumS (chgS (s1, s2) L) (k + 1) = 0 → J (bareTo (s1, s2) L k) W → YieldAt Fence.wide (n - 1) Try.prog l #[.int .u64 (s1 + (k : Int))] W fun e W' =>
      (e = .returned (.bool true) ∧ J (bareTo (s1, s2) L k ++ [s1 + (k : Int)]) W' ∧ KpT (fun _ => true) W W') ∨ (e = .returned (.bool false) ∧ Jx (bareTo (s1, s2) L k ++ [s1 + (k : Int)]) W'))
    (W : World) (hJ : AbidesFrom W.heap.size J) (hB1 : W.heap[B1]? = some (.cells #[.int .u64 s1, .int .u64 s2] 70 (0, 0))) (hB2 : W.heap[B2]? = some (.cells #[v] 22 (0, 0))) (hO : OpsR W v L) (h0 : J [] W) :
    Calls Try.prog 64 #[.func (.yield l) #[] #[], .pointer (some ⟨B1, 0, none⟩), .pointer (some ⟨B2, 0, none⟩)] W fun e W' => (∃ v, e = .returned v) ∧ ((∃ xs, xs = bareS (s1, s2) L ∧ J xs W') ∨ (∃ pre, pre <+: bareS (s1, s2) L ∧ Jx pre W')) := by
  obtain ⟨p, c, rfl, hX⟩ := hO.cases
  have hX' := Lib.hid hX
  obtain ⟨NL, hNL⟩ : ∃ NL, L.length = NL := ⟨_, rfl⟩
  rw [hNL] at hL hB2
  rw [hNL] at hO
  have hNL' := Lib.hid hNL
  obtain ⟨q0, q1, -, -⟩ := cells2 hB1
  have q2 : W.cell? ⟨B2, 0, none⟩ = some (.slice p NL c) := cell_of_row _ _ 0 _ _ _ hB2
  clear hX hNL hO
  go_enter Try.func64, Try.ntmps64
  cases hE : emptyS (s1, s2) with
  | true =>
    go_wp2_with (go_at_call 41; refine (empty_any _ _ _).mono ?_; rintro e w3 ⟨rfl, k3⟩; rw [hE])
    refine bodyPost_ret (results_none rfl _ _ _) rfl ?_
    refine ⟨⟨_, rfl⟩, .inl ⟨[], by unfold bareS; rw [hE]; rfl, ?_⟩⟩
    exact hJ [] W w3 none h0 ⟨k3.os, k3.tape, k3.output, k3.size, fun k hk _ => Below.block k3 k hk⟩ (fun r e => by cases e)
  | false =>
    obtain ⟨i1, i2, i3, i4⟩ := hs
    have hle : s1 ≤ s2 := by simpa [emptyS] using hE
    obtain ⟨m, hm⟩ : ∃ m : Nat, lenS (s1, s2) = m := ⟨_, rfl⟩
    have hm1 : s2 - s1 + 1 = (m : Int) := by rw [← hm]; unfold lenS; simp only; omega
    have e1 : IntKind.u64.wrap (s2 - s1) = s2 - s1 := by rw [IntKind.wrap_u64]; omega
    have e2 : IntKind.u64.wrap (s2 - s1 + 1) = (m : Int) := by rw [IntKind.wrap_u64]; omega
    have e3 : IntKind.u64.wrap ((m : Int) + 1) = (m : Int) + 1 := by rw [IntKind.wrap_u64]; omega
    have hm' := Lib.hid hm
    obtain ⟨i0, hi, hz0, hz1, hz2⟩ := info_parts info_int
    have hBs : bareS (s1, s2) L = bareTo (s1, s2) L m := by unfold bareS; rw [hE, hm]; rfl
    have hBs' := Lib.hid hBs
    have hle' := Lib.hid hle
    have hm1' := Lib.hid hm1
    clear hle hBs hm
    have hmk : ∀ w1 : World, (Instr.makeSlice 27 (.int .u64 ((m : Int) + 1)) (.int .u64 ((m : Int) + 1))).run Try.prog w1 = .ok (.slice (some ⟨w1.heap.size, 0, none⟩) (m + 1) (m + 1)) (w1.alloc (.cells (intsV (List.replicate (m + 1) 0)).toArray 3)) := by
      intro w1
      rw [run_makeSlice (P := Try.prog) (w := w1) 27 3 i0 (.int .i64 0) Try.underlying27 hi hz0 .u64 .u64 ((m : Int) + 1) ((m : Int) + 1) (by omega) (by omega) (by rw [hz1]; omega) (by rw [hz2]; omega) (by omega)]
      rw [show ((m : Int) + 1).toNat = m + 1 by omega, hz1, Nat.mul_one, madeCells_int]
    go_upto_region 2 with (go_at_call 41; refine (empty_any _ _ _).mono ?_; rintro e w3 ⟨rfl, k3⟩; rw [hE]; have x0 := k3.cell q0; have x1 := k3.cell q1; have x2 := k3.cell q2)
    obtain ⟨cb, hcb⟩ : ∃ cb, w3.heap.size = cb := ⟨_, rfl⟩
    obtain ⟨W4, e4⟩ : ∃ W4, w3.alloc (.cells (intsV (List.replicate (m + 1) 0)).toArray 3) = W4 := ⟨_, rfl⟩
    have hmk3 := hmk w3
    rw [hcb, e4] at hmk3
    have n4 : Nb W W4 := by rw [← e4]; exact k3.alloc _
    have h4 : W4.heap[cb]? = some (.cells (intsV (chgS (s1, s2) (L.take 0))).toArray 3 (0, 0)) := by
      rw [← e4]
      have : chgS (s1, s2) (L.take 0) = List.replicate (m + 1) 0 := by unfold chgS; rw [hm'.out]; rfl
      rw [this]
      exact new_blk _ _ hcb
    have hcbW : W.heap.size ≤ cb := by rw [← hcb]; exact k3.size
    have hI4 := Lib.hid (And.intro n4 h4)
    have y2 := n4.cell q2
    clear hmk e4 h4 k3 x0 x1 x2 q0 q1 q2
    go_wp2_with fail
    clear hmk3 hcb y2 n4
    go_loopw [23] (fun i wr => ∃ k : Nat, k ≤ NL ∧ i = .int .i64 k ∧ Hid (Nb W wr ∧ wr.heap[cb]? = some (.cells (intsV (chgS (s1, s2) (L.take k))).toArray 3 (0, 0)))) (fun i _ => NL - (intOf i).toNat)
    case atStart => exact ⟨0, Nat.zero_le _, rfl, hI4⟩
    case round =>
      clear hI4
      obtain ⟨k, hk, rfl, hI⟩ := hrel
      have b1 := hI.out.1.block hB1
      have b2 := hI.out.1.block hB2
      obtain ⟨q0, q1, -, -⟩ := cells2 b1
      have q2 : wr.cell? ⟨B2, 0, none⟩ = some (.slice p NL c) := cell_of_row _ _ 0 _ _ _ b2
      by_cases hlt : k < NL
      · obtain ⟨eb, eo, o, rfl, hm, hO, hcap⟩ := hX'.out k (by rw [hNL'.out]; exact hlt)
        have hmm := Lib.hid hm
        clear hm
        have hcap' : k < c := by have := hNL'.out; omega
        have hO' := hO.nb hI.out.1
        have hOh := Lib.hid hO'
        have e1 : IntKind.i64.wrap ((k : Int) + 1) = (k : Int) + 1 := by rw [IntKind.wrap_i64]; omega
        go_upto_region 6 with (fail)
        have hBy := fun w1 (h : Nb wr w1) => bytesOf_any eb (eo + k * 17) o w1 (hOh.out.nb h)
        have hl1 := lt_blk b1
        have hl2 := lt_blk b2
        have hCo := fun w1 => common_any s1 s2 (spanS o).1 (spanS o).2 w1
        obtain ⟨C1, hC1⟩ : ∃ C1, (comS (s1, s2) ((spanS o).1, (spanS o).2)).1 = C1 := ⟨_, rfl⟩
        obtain ⟨C2, hC2⟩ : ∃ C2, (comS (s1, s2) ((spanS o).1, (spanS o).2)).2 = C2 := ⟨_, rfl⟩
        rw [hC1, hC2] at hCo
        have hcom : comS (s1, s2) (spanS o) = (C1, C2) := by rw [← hC1, ← hC2]
        have hcin := com_in (s := (s1, s2)) ⟨i1, i2, i3, i4⟩ (span_in hOh.out.ok)
        have hcom' := Lib.hid hcom
        have hcin' := Lib.hid hcin
        have hCo' := Lib.hid hCo
        have hBy' := Lib.hid hBy
        clear hC1 hC2 hcom hcin hCo hBy
        generalize (spanS o).1 = u1 at *
        generalize (spanS o).2 = u2 at *
        go_region_held3 (fun w' => Nb wr w' ∧ w'.cell? ⟨B1, 0, none⟩ = some (.int .u64 s1) ∧ w'.cell? ⟨B1, 1, none⟩ = some (.int .u64 s2) ∧ w'.cell? ⟨B2, 0, none⟩ = some (.slice (some ⟨eb, eo, none⟩) NL c))
          (first
            | assumption
            | exact ⟨(Nb.refl _).drewN 1, q0, q1, q2⟩
            | (exact SB.keep (by assumption) (by assumption))
            | (exact SB.keep ((Nb.refl _).alloc _) (by assumption))
            | (exact SB.realloc (by assumption) hl1 hl2 (Nat.le_trans (Nb.size (a := wr.drew) hn1) (Nb.size hn2)) _)
            | (exact SB.set (SB.set (by assumption) hl1 hl2 (by first | exact Nat.le_refl _ | exact Nb.size (a := wr.drew) hn1) _) hl1 hl2 (by first | exact Nat.le_refl _ | exact Nb.size (a := wr.drew) hn1) _))
          (first
            | (go_at_call 40; refine (hBy'.out _ (by first | assumption | exact (by assumption : _ ∧ _).1)).mono ?_; rintro e w1 ⟨rfl, hn1⟩; try (have hbk := Nb.block hn1 (new_blk _ _ rfl); obtain ⟨zz0, zz1, zf0, zf1⟩ := cells2 hbk))
            | (go_at_call 51; refine (hCo'.out _).mono ?_; rintro e w2 ⟨rfl, hn2⟩; try (first | (have hbk2 := Nb.block hn2 hbk; obtain ⟨zz0, zz1, zf0, zf1⟩ := cells2 hbk2) | (have hbk2 := Nb.block hn2 (new_blk _ _ rfl); obtain ⟨zz0, zz1, zf0, zf1⟩ := cells2 hbk2))))
        all_goals
          have n2 : Nb wr w2 := by
            first
              | exact ((Nb.refl wr).drewN 1).trans (hn1.trans hn2)
              | exact (((Nb.refl wr).drewN 1).alloc _).trans (hn1.trans hn2)
              | exact ((((Nb.refl wr).drewN 1).trans hn1).alloc _).trans hn2
          first
            | (obtain ⟨W7, e7, n7, h7, hgw⟩ := finA n2 (.int .u64 C1) (.int .u64 C2) 70; rw [e7])
            | (obtain ⟨W7, e7, n7, h7, hgw⟩ := finB n2 hbk2 (by first | exact Nat.le_refl _ | exact Nb.size (a := wr.drew) hn1) (.int .u64 C1) (.int .u64 C2); rw [e7])
          clear e7 n2
          have r1 := n7.block b1
          have r2 := n7.cell q2
          obtain ⟨t0, t1, -, -⟩ := cells2 r1
          obtain ⟨g0, g1, -, -⟩ := cells2 h7
          have o2 := (hOh.out.nb n7).c2
          have hch := n7.block hI.out.2
          have hNW := hI.out.1.trans n7
          have hst : updS (s1, s2) (chgS (s1, s2) (L.take k)) o = (if (o.store && !emptyS (C1, C2)) = true then ((chgS (s1, s2) (L.take k)).set (C1 - s1).toNat (wrap64 ((chgS (s1, s2) (L.take k)).getD (C1 - s1).toNat 0 + 1))).set (C2 - s1 + 1).toNat (wrap64 (((chgS (s1, s2) (L.take k)).set (C1 - s1).toNat (wrap64 ((chgS (s1, s2) (L.take k)).getD (C1 - s1).toNat 0 + 1))).getD (C2 - s1 + 1).toNat 0 - 1)) else chgS (s1, s2) (L.take k)) := by
            unfold updS; rw [hcom'.out]
          have hsu := (chgS_succ (s1, s2) hmm.out).trans hst
          have hclen := (chgS_len (s1, s2) (L.take k)).trans (by rw [hm'.out])
          clear hst
          generalize chgS (s1, s2) (L.take k) = ch at *
          generalize o.store = ost at *
          have hsu' := Lib.hid hsu
          have hch' := Lib.hid hch
          have hNW' := Lib.hid hNW
          clear hsu hch hNW
          cases ost with
          | false =>
            go_wp2_with fail
            go_roundw
            case rel => exact ⟨k + 1, hlt, by simp, Lib.hid ⟨hNW'.out, by rw [hsu'.out]; exact hch'.out⟩⟩
            case measure => simp [intOf]; omega
          | true =>
            cases hEC : emptyS (C1, C2) with
            | true =>
              go_wp2_with (go_at_call 41; refine (empty_any _ _ _).mono ?_; rintro e w8 ⟨rfl, k8⟩; rw [hEC])
              go_roundw
              case rel => exact ⟨k + 1, hlt, by simp, Lib.hid ⟨hNW'.out.trans k8, by rw [hsu'.out, hEC]; exact k8.block hch'.out⟩⟩
              case measure => simp [intOf]; omega
            | false =>
              have hC := hcom'.out
              unfold comS at hC
              simp only [Prod.mk.injEq] at hC
              have hEC2 : C1 ≤ C2 := by simpa [emptyS] using hEC
              have hm2 := hm1'.out
              obtain ⟨x, hx⟩ : ∃ x : Nat, C1 - s1 = (x : Int) := ⟨(C1 - s1).toNat, by omega⟩
              obtain ⟨y, hy⟩ : ∃ y : Nat, C2 - s1 + 1 = (y : Int) := ⟨(C2 - s1 + 1).toNat, by omega⟩
              have ex : IntKind.u64.wrap (C1 - s1) = (x : Int) := by rw [IntKind.wrap_u64]; omega
              have ey0 : IntKind.u64.wrap (C2 - s1) = C2 - s1 := by rw [IntKind.wrap_u64]; omega
              have ey : IntKind.u64.wrap (C2 - s1 + 1) = (y : Int) := by rw [IntKind.wrap_u64]; omega
              have hxm : (x : Int) < (m : Int) + 1 := by omega
              have hym : (y : Int) < (m : Int) + 1 := by omega
              have hxm' : x < m + 1 := by omega
              have hym' : y < m + 1 := by omega
              have hxl := Lib.hid (show (C1 - s1).toNat = x by omega)
              have hyl := Lib.hid (show (C2 - s1 + 1).toNat = y by omega)
              clear hC hEC2 hm2 hx hy
              have hcl := lt_blk hI.out.2
              have hBl := lt_blk hB1
              go_upto_region 8 with (go_at_call 41; refine (empty_any _ _ _).mono ?_; rintro e w8 ⟨rfl, k8⟩; rw [hEC])
              have r8 := k8.block r1
              have h8 := k8.block h7
              have hch8 := k8.block hch'.out
              have hN8 := hNW'.out.trans k8
              clear t0 t1 g0 g1 r1 h7 r2 o2
              obtain ⟨t0, t1, -, -⟩ := cells2 r8
              obtain ⟨g0, g1, -, -⟩ := cells2 h8
              have cx := ints_cell (i := x) hch8 (by rw [hclen]; exact hxm')
              have fx := frozen_blk hch8 x
              have hch8' := Lib.hid hch8
              have hN8' := Lib.hid hN8
              clear hch8 hN8
              obtain ⟨cv, hcv⟩ : ∃ cv, ch.getD x 0 = cv := ⟨_, rfl⟩
              rw [hcv] at cx
              have hcv' := Lib.hid hcv
              clear hcv
              go_upto_region 9 with (fail)
              obtain ⟨W9, e9⟩ : ∃ W9, w8.setCell ⟨cb, x, none⟩ (.int .i64 (wrap64 (cv + 1))) = W9 := ⟨_, rfl⟩
              have hch9 : W9.heap[cb]? = some (.cells (intsV (ch.set x (wrap64 (cv + 1)))).toArray 3 (0, 0)) := by rw [← e9]; exact ints_set hch8'.out _
              have r9 : W9.heap[B1]? = some (.cells #[.int .u64 s1, .int .u64 s2] 70 (0, 0)) := by rw [← e9]; exact (Below.heap_setCell _ _ _ _ (by show B1 ≠ cb; omega)).trans r8
              have h9 := (Below.heap_setCell w8 ⟨cb, x, none⟩ (.int .i64 (wrap64 (cv + 1))) _ (by show _ ≠ cb; omega)).trans h8
              rw [e9] at h9
              have hN9 : Nb W W9 := by rw [← e9]; exact hN8'.out.setCell hcbW _
              rw [e9]
              clear t0 t1 g0 g1 r8 h8 cx fx e9 hch8' hN8'
              obtain ⟨t0, t1, -, -⟩ := cells2 r9
              obtain ⟨g0, g1, -, -⟩ := cells2 h9
              have cy := ints_cell (i := y) hch9 (by rw [List.length_set, hclen]; exact hym')
              have fy := frozen_blk hch9 y
              have hch9' := Lib.hid hch9
              have hN9' := Lib.hid hN9
              obtain ⟨dv, hdv⟩ : ∃ dv, (ch.set x (wrap64 (cv + 1))).getD y 0 = dv := ⟨_, rfl⟩
              rw [hdv] at cy
              have hdv' := Lib.hid hdv
              clear hdv hch9 hN9
              go_wp2_with fail
              go_roundw
              case rel =>
                refine ⟨k + 1, hlt, by simp, Lib.hid ⟨hN9'.out.setCell hcbW _, ?_⟩⟩
                have := ints_set (i := y) hch9'.out (wrap64 (dv - 1))
                rw [hsu'.out, hEC]
                simp only [Bool.not_false, Bool.and_true, if_true]
                rw [hxl.out, hyl.out, hcv'.out, hdv'.out]
                exact this
              case measure => simp [intOf]; omega
      · obtain rfl : k = NL := by omega
        have htk : L.take k = L := by rw [← hNL'.out, List.take_length]
        have hch := hI.out.2
        rw [htk] at hch
        have hNW := hI.out.1
        have hJ4 : J [] wr := hJ [] W wr none h0 ⟨hNW.os, hNW.tape, hNW.output, hNW.size, fun k hk _ => Below.block hNW k hk⟩ (fun r e => by cases e)
        have hclen := (chgS_len (s1, s2) L).trans (by rw [hm'.out])
        have hch' := Lib.hid hch
        have b1' := Lib.hid b1
        have hJ4' := Lib.hid hJ4
        clear hch hJ4 htk q2 b2 hI
        have hm2 := hm1'.out
        have hmlt : (m : Int) ≤ 1000 := by omega
        clear hm2
        go_wp2_with fail
        clear q0 q1 b1
        refine (wpIn_wide (n := n)).1 ?_
        gi_loopw [8, 65] (fun st i wr2 => ∃ k2 : Nat, k2 ≤ m ∧ i = .int .u64 k2 ∧ st = .int .i64 (sumS (chgS (s1, s2) L) k2) ∧ Hid (J (bareTo (s1, s2) L k2) wr2 ∧ KpT (fun _ => true) wr wr2)) (fun _ i _ => m - (intOf i).toNat)
        case atStart => exact ⟨0, Nat.zero_le _, rfl, rfl, Lib.hid ⟨hJ4'.out, KpT.refl _ _⟩⟩
        case round =>
          obtain ⟨k2, hk2, rfl, rfl, hK⟩ := hrel
          have hch2 := hK.out.2.2 _ _ _ _ rfl hch'.out
          have hb2 := hK.out.2.2 _ _ _ _ rfl b1'.out
          obtain ⟨q0, q1, -, -⟩ := cells2 hb2
          by_cases hlt2 : k2 < m
          · have cy := ints_cell (i := k2) hch2 (by rw [hclen]; omega)
            have hk3 : (k2 : Int) < (m : Int) + 1 := by omega
            have e5 : IntKind.u64.wrap ((k2 : Int) + 1) = (k2 : Int) + 1 := by rw [IntKind.wrap_u64]; omega
            have hx1 : s1 + (k2 : Int) ≤ s2 := by have := hm1'.out; omega
            have e6 : IntKind.u64.wrap (s1 + (k2 : Int)) = s1 + (k2 : Int) := by rw [IntKind.wrap_u64]; omega
            have hsum : sumS (chgS (s1, s2) L) (k2 + 1) = wrap64 (sumS (chgS (s1, s2) L) k2 + (chgS (s1, s2) L).getD k2 0) := rfl
            have hbs := bareTo_succ (s1, s2) L k2
            have hYk := hY k2 wr (by rw [hm'.out]; exact hlt2)
            obtain ⟨S1, hS1⟩ : ∃ S1, sumS (chgS (s1, s2) L) (k2 + 1) = S1 := ⟨_, rfl⟩
            rw [hS1] at hsum hbs hYk
            have hS1' := Lib.hid hS1
            have hbs' := Lib.hid hbs
            have hYk' := Lib.hid hYk
            have hK' := Lib.hid hK.out
            obtain ⟨S0, hS0⟩ : ∃ S0, sumS (chgS (s1, s2) L) k2 = S0 := ⟨_, rfl⟩
            rw [hS0] at hsum ⊢
            obtain ⟨cv, hcv⟩ : ∃ cv, (chgS (s1, s2) L).getD k2 0 = cv := ⟨_, rfl⟩
            rw [hcv] at hsum cy
            have hsum2 := hsum.symm
            clear hS1 hbs hYk hS0 hcv hch2 hb2 hx1 hsum hK q1
            cases hz : (S1 == 0) with
            | false =>
              have hbn := Lib.hid (show bareTo (s1, s2) L (k2 + 1) = bareTo (s1, s2) L k2 by rw [hbs'.out, hz]; rfl)
              gi_wp2
              refine ⟨fun _ h => (by cases h), ?_⟩
              gi_wp2
              go_roundw
              case rel => exact ⟨k2 + 1, by omega, by simp, congrArg (Value.int .i64) hS1'.out.symm, Lib.hid ⟨by rw [hbn.out]; exact hK'.out.1, hK'.out.2⟩⟩
              case measure => simp [intOf]; omega
            | true =>
              have hbn := Lib.hid (show bareTo (s1, s2) L (k2 + 1) = bareTo (s1, s2) L k2 ++ [s1 + (k2 : Int)] by rw [hbs'.out, hz]; rfl)
              have hS10 : S1 = 0 := by simpa using hz
              obtain ⟨fn, tmps, assign, body, hy, hR⟩ := hYk'.out hS10 hK'.out.1
              have hS10' := Lib.hid hS10
              clear hS10
              gi_wp2
              refine hR.mono ?_
              rintro e W5 (⟨rfl, hJ3, hk3⟩ | ⟨rfl, hJx3⟩)
              · gi_wp2
                go_roundw
                case rel => exact ⟨k2 + 1, by omega, by simp, congrArg (Value.int .i64) hS1'.out.symm, Lib.hid ⟨by rw [hbn.out]; exact hJ3, hK'.out.2.trans hk3⟩⟩
                case measure => simp [intOf]; omega
              · gi_wp2
                refine bodyPost_ret (results_none rfl _ _ _) rfl ?_
                refine ⟨⟨_, rfl⟩, .inr ⟨_, ?_, hJx3⟩⟩
                rw [hBs'.out, ← hbn.out]
                exact bareTo_prefix _ _ (by omega)
          · obtain rfl : k2 = m := by omega
            have hJe := hK.out.1
            rw [← hBs'.out] at hJe
            gi_wp2
            go_end0
            exact ⟨⟨_, rfl⟩, .inl ⟨_, rfl, hJe⟩⟩
/-- A byte of a span. -/
abbrev ByteOf (s : Int × Int) := { x : Int // s.1 ≤ x ∧ x ≤ s.2 }
theorem bare_stops (n : Nat) (hn : 1 ≤ n) (B1 B2 : Nat) (s : Int × Int) (hs : InS s) (hlen : s.2 - s.1 + 1 ≤ 1000) (v : Value) (L : List OpD) (hL : L.length ≤ 1000000) (w : World)
    (hB1 : w.heap[B1]? = some (.cells #[.int .u64 s.1, .int .u64 s.2] 70 (0, 0))) (hB2 : w.heap[B2]? = some (.cells #[v] 22 (0, 0))) (hO : OpsR w v L) :
    SeqStopsK Fence.wide n Try.prog 64 #[.pointer (some ⟨B1, 0, none⟩), .pointer (some ⟨B2, 0, none⟩)] (fun x : ByteOf s => #[Value.int .u64 x.1]) (KpT fun _ => true) (fun xs => xs.map (·.1) = bareS s L) (fun pre => pre.map (·.1) <+: bareS s L) (bareS s L).length w := fun l J Jx W hW hJ hJx hY h0 => by
  refine callsIn_wide.2 ((bare1_any n hn l B1 B2 s.1 s.2 hs hlen v L hL (fun ys W => ∃ xs : List (ByteOf s), xs.map (·.1) = ys ∧ J xs W) (fun ys W => ∃ xs : List (ByteOf s), xs.map (·.1) = ys ∧ Jx xs W) ?_ W ?_ (Nb.block (a := w) hW hB1) (Nb.block (a := w) hW hB2) (hO.nb hW) ⟨[], rfl, h0⟩).mono ?_)
  · rintro k W1 hk hz ⟨xs, hxs, hj⟩
    have hne : emptyS s = false := by
      unfold lenS at hk
      simp only [emptyS, decide_eq_false_iff_not]
      simp only at hk
      omega
    have hbs : bareS s L = bareTo s L (lenS s) := by unfold bareS; rw [hne]; rfl
    have hs1 : bareTo s L (k + 1) = bareTo s L k ++ [s.1 + (k : Int)] := by
      rw [bareTo_succ, show sumS (chgS s L) (k + 1) = 0 from hz]; rfl
    have hl : xs.length < (bareS s L).length := by
      have h1 : xs.length = (bareTo s L k).length := by rw [← hxs, List.length_map]
      have h2 := (bareTo_prefix s L (k := k + 1) (m := lenS s) hk).length_le
      rw [hs1, List.length_append] at h2
      rw [hbs, h1]
      simp at h2
      omega
    have hin : s.1 ≤ s.1 + (k : Int) ∧ s.1 + (k : Int) ≤ s.2 := by
      unfold lenS at hk
      simp only at hk
      omega
    obtain ⟨fn, tmps, assign, body, hy, hR⟩ := hY xs ⟨s.1 + (k : Int), hin⟩ W1 hj hl
    refine ⟨fn, tmps, assign, body, hy, hR.mono ?_⟩
    rintro e W' (⟨h1, h2, h3⟩ | ⟨h1, h2⟩)
    · exact .inl ⟨h1, ⟨_, by rw [List.map_append, hxs]; rfl, h2⟩, h3⟩
    · exact .inr ⟨h1, ⟨_, by rw [List.map_append, hxs]; rfl, h2⟩⟩
  · rintro ys W1 W2 row ⟨xs, hxs, hj⟩ hg hr
    exact ⟨xs, hxs, hJ xs W1 W2 row hj hg hr⟩
  · rintro e W' ⟨hv, ⟨ys, hys, xs, hxs, hj⟩ | ⟨pre, hp, xs, hxs, hj⟩⟩
    · exact ⟨hv, .inl ⟨xs, hxs.trans hys, hj⟩⟩
    · exact ⟨hv, .inr ⟨xs, by show xs.map (·.1) <+: bareS s L; rw [hxs]; exact hp, hj⟩⟩
end Go.Proofs.Yticifolljhplmaa
