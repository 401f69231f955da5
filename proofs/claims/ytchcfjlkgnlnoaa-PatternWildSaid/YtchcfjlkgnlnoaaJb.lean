/-
  Proved here: trees in memory stay where what was there stays; a row's parts. Conditions: none.
-/
import Derived.Test.YtchcfjlkgnlnoaaJa
import Derived.Test.YtchcfjlkgnlnoaaYa
namespace Go.Proofs.Ytchcfjlkgnlnoaa
set_option linter.unusedVariables false
set_option linter.unusedSimpArgs false
theorem RowS.nb {w w' : World} {s : Nat} {v : Value} {rows : List (List Value)} (h : RowS w s v rows) (k : Nb w w') : RowS w' s v rows := by
  obtain ⟨A, cap, e, hc, hl, hz, hr⟩ := h
  refine ⟨A, cap, e, hc, hl, hz, fun i r hi => ?_⟩
  obtain ⟨b, o, hA, hj⟩ := hr i r hi
  exact ⟨b, o, hA, fun j u hu => k.cell (hj j u hu)⟩
theorem Ex.Has.nb {w w' : World} (k : Nb w w') {e : Ex} (h : e.Has w) : e.Has w' := by
  induction h with
  | mk row _ num nm ih => exact .mk (row.nb k) ih num nm
theorem ExsHas.nb {w w' : World} {v : Value} {l : List Ex} (h : ExsHas w v l) (k : Nb w w') : ExsHas w' v l := ⟨h.row.nb k, fun x hx => (h.kids x hx).nb k⟩
theorem St.Has.nb {w w' : World} {s : St} (h : s.Has w) (k : Nb w w') : s.Has w' := ⟨h.args.nb k, h.nm, h.ac⟩
theorem Bd.Has.nb {w w' : World} (k : Nb w w') {b : Bd} (h : b.Has w) : b.Has w' := by
  induction h with
  | mk s1 s2 a p1 _ m1 m2 m3 _ ac af ih1 ih2 => exact .mk (s1.nb k) (fun s hs => (s2 s hs).nb k) (a.nb k) (p1.nb k) ih1 (m1.nb k) (fun m hm => (m2 m hm).nb k) (fun m hm => (m3 m hm).nb k) ih2 ac af
theorem Pg.Has.nb {w w' : World} {p : Pg} (h : p.Has w) (k : Nb w w') : p.Has w' :=
  ⟨h.drow.nb k, fun d hd => (h.prow d hd).nb k, fun d hd => (h.body d hd).nb k, h.args.nb k, h.dnm, h.mn⟩
/-- The head of a row. -/
theorem RowS.head {w : World} {s : Nat} {v : Value} {rows : List (List Value)} (h : RowS w s v rows) : ∃ (A : Option Addr) (cap : Nat), v = .slice A rows.length cap ∧ rows.length ≤ cap ∧ rows.length ≤ 9223372036854775807 ∧ (A = none → cap = 0) := by
  obtain ⟨A, cap, e, hc, hl, hz, -⟩ := h
  exact ⟨A, cap, e, hc, hl, hz⟩
/-- Number i of a row. -/
theorem RowS.at_ {w : World} {s : Nat} {A : Option Addr} {n cap : Nat} {rows : List (List Value)} (h : RowS w s (.slice A n cap) rows) {i : Nat} {r : List Value} (hi : rows[i]? = some r) : ∃ b o, A = some ⟨b, o, none⟩ ∧ ∀ (j : Nat) (u : Value), r[j]? = some u → w.cell? ⟨b, o + i * s + j, none⟩ = some u := by
  obtain ⟨A', cap', e, -, -, -, hr⟩ := h
  cases e
  exact hr i r hi
theorem ExsHas.at_ {w : World} {A : Option Addr} {n cap : Nat} {l : List Ex} (h : ExsHas w (.slice A n cap) l) {i : Nat} {e : Ex} (hi : l[i]? = some e) : ∃ b o, A = some ⟨b, o, none⟩ ∧
    (w.cell? ⟨b, o + i * 5, none⟩ = some (.int .i64 e.kind) ∧ w.cell? ⟨b, o + i * 5 + 1, none⟩ = some (.int .i64 e.at_) ∧ w.cell? ⟨b, o + i * 5 + 2, none⟩ = some (.int .i64 e.n) ∧ w.cell? ⟨b, o + i * 5 + 3, none⟩ = some (sV e.name) ∧ w.cell? ⟨b, o + i * 5 + 4, none⟩ = some e.av) ∧ e.Has w := by
  obtain ⟨b, o, hA, hr⟩ := h.row.at_ (i := i) (r := e.cells) (by rw [List.getElem?_map, hi]; rfl)
  exact ⟨b, o, hA, ⟨hr 0 _ rfl, hr 1 _ rfl, hr 2 _ rfl, hr 3 _ rfl, hr 4 _ rfl⟩, h.kids e (List.mem_of_getElem? hi)⟩
theorem ExsHas.head {w : World} {v : Value} {l : List Ex} (h : ExsHas w v l) : ∃ (A : Option Addr) (cap : Nat), v = .slice A l.length cap ∧ l.length ≤ cap ∧ l.length ≤ 9223372036854775807 ∧ (A = none → cap = 0) := by
  have := h.row.head
  simpa using this
end Go.Proofs.Ytchcfjlkgnlnoaa
