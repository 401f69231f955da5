/-
  Proved here: an append whose source may be nil; operations as cells, as a source and as a row. Conditions: none.
-/
import Derived.Laws.AppendOwnNone
import Derived.Deep.MidRow
import Derived.Test.YticifolljhplmaaYt
namespace Go.Proofs.Yticifolljhplmaa
open Go.RowKit
set_option linter.unusedVariables false
set_option linter.unusedSimpArgs false
/-- What an append takes: nothing, or cells at an address. -/
def SrcR (w : World) (v : Value) (m size : Nat) (news : List Value) : Prop :=
  (v = .slice none 0 0 ∧ m = 0 ∧ news = []) ∨ ∃ (ad : Addr) (c : Nat), v = .slice (some ad) m c ∧ news.length = m * size ∧ (∀ (j : Nat) (u : Value), news[j]? = some u → w.cell? (ad.add j) = some u) ∧ (∀ u ∈ news, u.oneCell' = true)
theorem wpList_append_src {P : Program} {w : World} {ops : Array Oper} {rest : List Oper} {o : Oper} {a : Act} {Q : Exit → Act → World → Prop} (hgd : o.guard = none) (s x : Operand) (t : TypeId)
    (ho : o.op = .call { callee := .builtin .append, args := #[s, x], argTypes := #[t, t] })
    (base : Nat) (e : TypeId) (i : TypeInfo) (z : Value) (size bytes : Nat) (ht : P.underlying t = some (.slice e)) (hi : P.info? e = some i) (hz : i.zero = some z)
    (hsize : i.size = size) (hby : i.bytes = bytes) (hzs : z.cells.size = size) (hsz : 0 < size)
    (v : Value) (n : Nat) (xs : List Value) (hs : a.eval s = v) (hown : w.ownsRow base e size v n xs)
    (sv : Value) (m : Nat) (news : List Value) (hx : a.eval x = sv) (hsrc : SrcR w sv m size news)
    (h63 : n + m ≤ maxLen) (hbytes : (n + m) * bytes ≤ 140737488355328) (hbase : base ≤ w.heap.size)
    (h : ∀ v' w', w'.ownsRow base e size v' (n + m) (xs ++ news) → w.grownBy w' v.ownBlock → wpList P ops Q rest (a.put o.dst v') w') : wpList P ops Q (o :: rest) a w := by
  rcases hsrc with ⟨rfl, rfl, rfl⟩ | ⟨ad, c, rfl, hl, hn, h1⟩
  · refine wpList_append_own_none hgd s x t ho base e i size ht hi v n xs hs hown hx (h v w (by simpa using hown) ?_)
    exact ⟨rfl, rfl, rfl, Nat.le_refl _, fun _ _ _ => rfl⟩
  · exact wpList_append_own _ hgd s x t ho base e i z size bytes ht hi hz hsize hby hzs hsz v n xs hs hown ad m c news hx hl hn h1 h63 hbytes hbase (fun v' w' h2 h3 _ => h v' w' h2 h3)
theorem flat_at {α : Type} {f : α → List Value} {s : Nat} {l : List α} (hf : ∀ x ∈ l, (f x).length = s) {i j : Nat} (hj : j < s) : (l.flatMap f)[i * s + j]? = l[i]?.bind fun x => (f x)[j]? := by
  induction l generalizing i with
  | nil => simp
  | cons x l ih =>
    have hx := hf x (by simp)
    rw [List.flatMap_cons]
    cases i with
    | zero => rw [List.getElem?_append_left (by omega)]; simp
    | succ i =>
      rw [List.getElem?_append_right (by rw [hx, Nat.succ_mul]; omega), hx, show (i + 1) * s + j - s = i * s + j by rw [Nat.succ_mul]; omega, ih (fun y hy => hf y (by simp [hy]))]
      simp
theorem flat_len {α : Type} {f : α → List Value} {s : Nat} {l : List α} (hf : ∀ x ∈ l, (f x).length = s) : (l.flatMap f).length = l.length * s := by
  induction l with
  | nil => simp
  | cons x l ih => rw [List.flatMap_cons, List.length_append, hf x (by simp), ih (fun y hy => hf y (by simp [hy])), List.length_cons, Nat.succ_mul, Nat.add_comm]
/-- The cells of an operation. -/
def OpD.cells (d : OpD) : List Value := [.int .i64 d.id, .bool d.load, .bool d.store, .bool d.fence, .int .u64 d.addr, .int .i64 d.size, .bool d.aq, .bool d.rl, .int .i64 d.pred, .int .i64 d.succ, .int .u64 d.value, .int .u64 d.stored, d.fv, .int .i64 d.pair, d.av, d.dv, d.cv]
theorem cells_len (d : OpD) : d.cells.length = 17 := rfl
theorem IntsR.one {w : World} {v : Value} {xs : List Int} (h : IntsR w v xs) : v.oneCell' = true := by
  obtain ⟨p, c, rfl⟩ := h.cases
  rfl
theorem OpAt.range {w : World} {b o : Nat} {d : OpD} (h : OpAt w b o d) : w.rangeAt b o d.cells := by
  intro j v hj
  have hlt : j < 17 := by
    have := (List.getElem?_eq_some_iff.1 hj).1
    rwa [cells_len] at this
  match j, hlt with
  | 0, _ => cases hj; exact h.c0
  | 1, _ => cases hj; exact h.c1
  | 2, _ => cases hj; exact h.c2
  | 3, _ => cases hj; exact h.c3
  | 4, _ => cases hj; exact h.c4
  | 5, _ => cases hj; exact h.c5
  | 6, _ => cases hj; exact h.c6
  | 7, _ => cases hj; exact h.c7
  | 8, _ => cases hj; exact h.c8
  | 9, _ => cases hj; exact h.c9
  | 10, _ => cases hj; exact h.c10
  | 11, _ => cases hj; exact h.c11
  | 12, _ => cases hj; exact h.c12
  | 13, _ => cases hj; exact h.c13
  | 14, _ => cases hj; exact h.c14
  | 15, _ => cases hj; exact h.c15
  | 16, _ => cases hj; exact h.c16
/-- Its slices are what they are said to be, and its numbers are words. -/
structure OpD.Has (w : World) (d : OpD) : Prop where
  rf : IntsR w d.fv d.from_
  ra : IntsR w d.av d.addrs
  rd : IntsR w d.dv d.datas
  rc : IntsR w d.cv d.ctrls
  ok : d.Ok
theorem OpD.Has.nb {w w' : World} {d : OpD} (h : d.Has w) (k : Nb w w') : d.Has w' := ⟨h.rf.nb k, h.ra.nb k, h.rd.nb k, h.rc.nb k, h.ok⟩
theorem OpAt.has {w : World} {b o : Nat} {d : OpD} (h : OpAt w b o d) : d.Has w := ⟨h.rf, h.ra, h.rd, h.rc, h.ok⟩
theorem OpsR.has {w : World} {v : Value} {l : List OpD} (h : OpsR w v l) : ∀ d ∈ l, d.Has w := by
  intro d hd
  rcases h with ⟨-, rfl⟩ | ⟨b, o, c, -, -, -, hx⟩
  · simp at hd
  · obtain ⟨i, hi, e⟩ := List.mem_iff_getElem.1 hd
    exact (hx i d (by rw [List.getElem?_eq_getElem hi, e])).has
theorem OpAt.of {w : World} {b o : Nat} {d : OpD} (hb : b < w.heap.size) (h : w.rangeAt b o d.cells) (k : d.Has w) : OpAt w b o d :=
  ⟨hb, h 0 _ rfl, h 1 _ rfl, h 2 _ rfl, h 3 _ rfl, h 4 _ rfl, h 5 _ rfl, h 6 _ rfl, h 7 _ rfl, h 8 _ rfl, h 9 _ rfl, h 10 _ rfl, h 11 _ rfl, h 12 _ rfl, h 13 _ rfl, h 14 _ rfl, h 15 _ rfl, h 16 _ rfl, k.rf, k.ra, k.rd, k.rc, k.ok⟩
theorem OpD.Has.ones {w : World} {d : OpD} (h : d.Has w) : ∀ u ∈ d.cells, u.oneCell' = true := by
  intro u hu
  have e1 := h.rf.one
  have e2 := h.ra.one
  have e3 := h.rd.one
  have e4 := h.rc.one
  unfold OpD.cells at hu
  simp only [List.mem_cons, List.not_mem_nil, or_false] at hu
  rcases hu with rfl | rfl | rfl | rfl | rfl | rfl | rfl | rfl | rfl | rfl | rfl | rfl | rfl | rfl | rfl | rfl | rfl <;> first | assumption | rfl
theorem flat_ones {w : World} {l : List OpD} (h : ∀ d ∈ l, d.Has w) : ∀ u ∈ l.flatMap OpD.cells, u.oneCell' = true := by
  intro u hu
  obtain ⟨d, hd, hu⟩ := List.mem_flatMap.1 hu
  exact (h d hd).ones u hu
/-- A slice that reads as a run of operations, as a source. -/
theorem src_of {w : World} {b o m c : Nat} {l : List OpD} (hl : l.length = m) (h : ∀ (i : Nat) (d : OpD), l[i]? = some d → OpAt w b (o + i * 17) d) : SrcR w (.slice (some ⟨b, o, none⟩) m c) m 17 (l.flatMap OpD.cells) := by
  refine .inr ⟨_, c, rfl, by rw [flat_len (fun d _ => cells_len d), hl], fun j u hj => ?_, ?_⟩
  · have h1 : j = (j / 17) * 17 + j % 17 := by omega
    rw [h1, flat_at (fun d _ => cells_len d) (Nat.mod_lt _ (by omega))] at hj
    cases hd : l[j / 17]? with
    | none => rw [hd] at hj; cases hj
    | some d =>
      rw [hd] at hj
      have := (h _ d hd).range (j % 17) u hj
      rw [Addr.add_mid, show o + j = o + j / 17 * 17 + j % 17 by omega]
      exact this
  · refine flat_ones (w := w) fun d hd => ?_
    obtain ⟨i, hi, e⟩ := List.mem_iff_getElem.1 hd
    exact (h i d (by rw [List.getElem?_eq_getElem hi, e])).has
/-- A row of one's own that reads as operations. -/
theorem ops_of_row {w : World} {base : Nat} {t : TypeId} {v : Value} {n : Nat} {l : List OpD} (hn : l.length = n) (h : w.ownsRow base t 17 v n (l.flatMap OpD.cells)) (k : ∀ d ∈ l, d.Has w) : OpsR w v l := by
  subst hn
  rcases h.2 with ⟨rfl, h0⟩ | ⟨g, cap, cur, rfl, _, hg, hc, _, _, ht⟩
  · exact .inl ⟨⟨_, _, rfl⟩, List.length_eq_zero_iff.1 h0⟩
  · refine .inr ⟨g, 0, cap, rfl, lt_blk hg, hc, fun i d hi => OpAt.of (lt_blk hg) (fun j u hj => ?_) (k d (List.mem_of_getElem? hi))⟩
    have hj' : j < 17 := by
      have := (List.getElem?_eq_some_iff.1 hj).1
      rwa [cells_len] at this
    have h2 : (cur.toList.take (l.length * 17))[i * 17 + j]? = some u := by
      rw [ht, flat_at (fun d _ => cells_len d) hj', hi]
      exact hj
    rw [cell_of_row _ _ (0 + i * 17 + j) _ _ _ hg]
    rw [List.getElem?_take] at h2
    split at h2
    · rw [Nat.zero_add]
      simpa using h2
    · cases h2
end Go.Proofs.Yticifolljhplmaa
