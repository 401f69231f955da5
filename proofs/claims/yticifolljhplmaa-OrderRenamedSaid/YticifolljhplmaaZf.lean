/-
  Proved here: small laws for the statement on one fence more: rows that stay, stores of whole structs in regions that draw their order. Conditions: none.
-/
import Derived.Test.YticifolljhplmaaZc
import Derived.Test.YticifolljhplmaaZe
import Derived.Deep.RegionHeld3
import Derived.Deep.MidRow
import Derived.LoopN
namespace Go.Proofs.Yticifolljhplmaa.orderMore
open Go.ChangeShapes Go.WideShapes Go.ChangeAt Go.RowKit
set_option linter.unusedVariables false
set_option linter.unusedSimpArgs false
theorem S17.of {W w' : World} {g : Nat} {t : TypeId} {v0 v1 v2 v3 v4 v5 v6 v7 v8 v9 v10 v11 v12 v13 v14 v15 v16 : Value} (h : W.heap[g]? = some (.cells #[v0, v1, v2, v3, v4, v5, v6, v7, v8, v9, v10, v11, v12, v13, v14, v15, v16] t (0, 0))) (k : Nb W w') : Nb W w' ∧ w'.cell? ⟨g, 0, none⟩ = some v0 ∧ w'.cell? ⟨g, 1, none⟩ = some v1 ∧ w'.cell? ⟨g, 2, none⟩ = some v2 ∧ w'.cell? ⟨g, 3, none⟩ = some v3 ∧ w'.cell? ⟨g, 4, none⟩ = some v4 ∧ w'.cell? ⟨g, 5, none⟩ = some v5 ∧ w'.cell? ⟨g, 6, none⟩ = some v6 ∧ w'.cell? ⟨g, 7, none⟩ = some v7 ∧ w'.cell? ⟨g, 8, none⟩ = some v8 ∧ w'.cell? ⟨g, 9, none⟩ = some v9 ∧ w'.cell? ⟨g, 10, none⟩ = some v10 ∧ w'.cell? ⟨g, 11, none⟩ = some v11 ∧ w'.cell? ⟨g, 12, none⟩ = some v12 ∧ w'.cell? ⟨g, 13, none⟩ = some v13 ∧ w'.cell? ⟨g, 14, none⟩ = some v14 ∧ w'.cell? ⟨g, 15, none⟩ = some v15 ∧ w'.cell? ⟨g, 16, none⟩ = some v16 := by
  obtain ⟨e0, e1, e2, e3, e4, e5, e6, e7, e8, e9, e10, e11, e12, e13, e14, e15, e16⟩ := cells17 (k.block h)
  exact ⟨k, e0, e1, e2, e3, e4, e5, e6, e7, e8, e9, e10, e11, e12, e13, e14, e15, e16⟩
theorem src_zero (w : World) (ad : Addr) (c : Nat) : SrcR w (.slice (some ad) 0 c) 0 17 [] := .inr ⟨ad, c, rfl, rfl, fun j u h => by simp at h, fun u h => by simp at h⟩
theorem own_to {w : World} {base n n' : Nat} {t : TypeId} {v : Value} {xs ys : List Value} (h : w.ownsRow base t 17 v n xs) (hn : n = n') (hx : xs = ys) : w.ownsRow base t 17 v n' ys := by
  subst hn hx
  exact h
theorem own_set {w : World} {base n : Nat} {t : TypeId} {v : Value} {xs : List Value} (h : w.ownsRow base t 17 v n xs) {p : Addr} (hp : p.block < base) (u : Value) : (w.setCell p u).ownsRow base t 17 v n xs := by
  refine ⟨h.1, ?_⟩
  rcases h.2 with h0 | ⟨g, cap, cur, h1, h2, h3, h4⟩
  · exact .inl h0
  · exact .inr ⟨g, cap, cur, h1, h2, (Below.heap_setCell _ _ _ _ (by omega)).trans h3, h4⟩
theorem step_store_row {P : Program} {w : World} {ops : Array Oper} {o : Oper} {a : Act} {K : Act → World → Prop} {Q : Exit → Act → World → Prop} {E : Prop} (hgd : o.guard = none) (ty : TypeId) (x y : Operand) (ho : o.op = .store ty x y)
    (vx : Value) (hx0 : a.eval x = vx) (vy : Value) (hy0 : a.eval y = vy) (g : Nat) (cells : Array Value) (hvx : vx = .pointer (some ⟨g, 0, none⟩)) (hvy : vy = .agg cells) (t : TypeId) (old : Array Value) (hg : w.heap[g]? = some (.cells old t (0, 0)))
    (hi : (P.info? ty).map (·.size) = some cells.size) (hold : old.size = cells.size) (h1 : cells.all (·.oneCell') = true) (h : K (a.put o.dst undef) (w.setRow g cells)) :
    if Region.wanted o (yielded ops a.tmps) = true then Oper.wp P o a w K Q else E := by
  have hw : Region.wanted o (yielded ops a.tmps) = true := by simp [Region.wanted, hgd]
  rw [if_pos hw]
  exact wp_store_row ty x y ho g cells (hx0.trans hvx) (hy0.trans hvy) t old hg hi hold h1 h
theorem rule_c {w : World} {v : Value} {L : List OpD} (hO : OpsR w v L) (hL : L.length ≤ 1000000) (hs : ∀ m ∈ L, ShortOp m) : ∀ W, Nb w W → ∀ x y : Int, -9223372036854775808 ≤ x → y < 9223372036854775808 →
    Calls Try.prog 25 #[v, .int .i64 x, .int .i64 y] W fun e w' => e = .returned (.int .i64 ((rulesS L x y).headD 0)) ∧ Nb W w' :=
  fun W k x y hx hy => rule_of v L x y W (hO.nb k) hL hs hx hy
theorem S34.of {W w' : World} {b p q : Nat} {d e : OpD} (h : OpAt W b p d) (h' : OpAt W b q e) (k : Nb W w') : Nb W w' ∧ w'.cell? ⟨b, p, none⟩ = some (.int .i64 d.id) ∧ w'.cell? ⟨b, p + 1, none⟩ = some (.bool d.load) ∧ w'.cell? ⟨b, p + 2, none⟩ = some (.bool d.store) ∧ w'.cell? ⟨b, p + 3, none⟩ = some (.bool d.fence) ∧ w'.cell? ⟨b, p + 4, none⟩ = some (.int .u64 d.addr) ∧ w'.cell? ⟨b, p + 5, none⟩ = some (.int .i64 d.size) ∧ w'.cell? ⟨b, p + 6, none⟩ = some (.bool d.aq) ∧ w'.cell? ⟨b, p + 7, none⟩ = some (.bool d.rl) ∧ w'.cell? ⟨b, p + 8, none⟩ = some (.int .i64 d.pred) ∧ w'.cell? ⟨b, p + 9, none⟩ = some (.int .i64 d.succ) ∧ w'.cell? ⟨b, p + 10, none⟩ = some (.int .u64 d.value) ∧ w'.cell? ⟨b, p + 11, none⟩ = some (.int .u64 d.stored) ∧ w'.cell? ⟨b, p + 12, none⟩ = some (d.fv) ∧ w'.cell? ⟨b, p + 13, none⟩ = some (.int .i64 d.pair) ∧ w'.cell? ⟨b, p + 14, none⟩ = some (d.av) ∧ w'.cell? ⟨b, p + 15, none⟩ = some (d.dv) ∧ w'.cell? ⟨b, p + 16, none⟩ = some (d.cv) ∧ w'.cell? ⟨b, q, none⟩ = some (.int .i64 e.id) ∧ w'.cell? ⟨b, q + 1, none⟩ = some (.bool e.load) ∧ w'.cell? ⟨b, q + 2, none⟩ = some (.bool e.store) ∧ w'.cell? ⟨b, q + 3, none⟩ = some (.bool e.fence) ∧ w'.cell? ⟨b, q + 4, none⟩ = some (.int .u64 e.addr) ∧ w'.cell? ⟨b, q + 5, none⟩ = some (.int .i64 e.size) ∧ w'.cell? ⟨b, q + 6, none⟩ = some (.bool e.aq) ∧ w'.cell? ⟨b, q + 7, none⟩ = some (.bool e.rl) ∧ w'.cell? ⟨b, q + 8, none⟩ = some (.int .i64 e.pred) ∧ w'.cell? ⟨b, q + 9, none⟩ = some (.int .i64 e.succ) ∧ w'.cell? ⟨b, q + 10, none⟩ = some (.int .u64 e.value) ∧ w'.cell? ⟨b, q + 11, none⟩ = some (.int .u64 e.stored) ∧ w'.cell? ⟨b, q + 12, none⟩ = some (e.fv) ∧ w'.cell? ⟨b, q + 13, none⟩ = some (.int .i64 e.pair) ∧ w'.cell? ⟨b, q + 14, none⟩ = some (e.av) ∧ w'.cell? ⟨b, q + 15, none⟩ = some (e.dv) ∧ w'.cell? ⟨b, q + 16, none⟩ = some (e.cv) := by
  have g := h.nb k
  have g' := h'.nb k
  exact ⟨k, g.c0, g.c1, g.c2, g.c3, g.c4, g.c5, g.c6, g.c7, g.c8, g.c9, g.c10, g.c11, g.c12, g.c13, g.c14, g.c15, g.c16, g'.c0, g'.c1, g'.c2, g'.c3, g'.c4, g'.c5, g'.c6, g'.c7, g'.c8, g'.c9, g'.c10, g'.c11, g'.c12, g'.c13, g'.c14, g'.c15, g'.c16⟩
theorem wp_bs {P : Program} {w w' : World} {o : Oper} {a : Act} {K : Act → World → Prop} {Q : Exit → Act → World → Prop} (t : TypeId) (len : Nat) (parts : Array (Nat × Operand)) (ho : o.op = .buildSlice t len parts)
    (vs : Array (Nat × Value)) (hp : (parts.map fun (i, x) => (i, a.eval x)) = vs) (v : Value) (hr : (Instr.buildSlice t len vs).run P w = .ok v w') (h : K (a.put o.dst v) w') : Oper.wp P o a w K Q := by
  unfold Oper.wp execOp
  simp only [ho, Sem.run_bind, hp, hr, Result.andThen_ok]
  exact h
theorem wp_app {P : Program} {w : World} {o : Oper} {a : Act} {K : Act → World → Prop} {Q : Exit → Act → World → Prop} (s x : Operand) (t : TypeId)
    (ho : o.op = .call { callee := .builtin .append, args := #[s, x], argTypes := #[t, t] })
    (base : Nat) (e : TypeId) (i : TypeInfo) (z : Value) (size bytes : Nat) (ht : P.underlying t = some (.slice e)) (hi : P.info? e = some i) (hz : i.zero = some z)
    (hsize : i.size = size) (hby : i.bytes = bytes) (hzs : z.cells.size = size) (hsz : 0 < size)
    (v : Value) (n : Nat) (xs : List Value) (hs : a.eval s = v) (hown : w.ownsRow base e size v n xs)
    (sv : Value) (m : Nat) (news : List Value) (hx : a.eval x = sv) (hsrc : SrcR w sv m size news)
    (h63 : n + m ≤ maxLen) (hbytes : (n + m) * bytes ≤ 140737488355328) (hbase : base ≤ w.heap.size)
    (h : ∀ v' w', w'.ownsRow base e size v' (n + m) (xs ++ news) → w.grownBy w' v.ownBlock → K (a.put o.dst v') w') : Oper.wp P o a w K Q := by
  rcases hsrc with ⟨rfl, rfl, rfl⟩ | ⟨ad, c, rfl, hl, hn, h1⟩
  · have hrun := run_append_owned_none (P := P) (w := w) base t o.type e i size ht hi v n xs hown
    unfold Oper.wp
    simp [execOp, ho, resolve, invoke, builtin, hs, hx, hrun, Result.andThen]
    exact h v w (by simpa using hown) ⟨rfl, rfl, rfl, Nat.le_refl _, fun _ _ _ => rfl⟩
  · exact wp_append_own w s x t ho base e i z size bytes ht hi hz hsize hby hzs hsz v n xs hs hown ad m c news hx hl hn h1 h63 hbytes hbase (fun v' w' h2 h3 _ => h v' w' h2 h3)
theorem rng17 {w : World} {g : Nat} {c : Array Value} {t : TypeId} {fr : Nat × Nat} (h : w.heap[g]? = some (.cells c t fr)) : w.rangeAt g 0 c.toList := by
  intro j v hj
  rw [cell_of_row _ _ (0 + j) _ _ _ h, Nat.zero_add]
  simpa using hj
theorem take_l {P : Program} {md : Region.Mode} {l : List Oper} {Q : Exit → Act → World → Prop} {S : World → Prop} {i : Nat} {oi : Oper} {v : Value} {fuel : Nat} {listed : Array Bool} {a : Act} {w : World} (hi : l[i]? = some oi)
    (hs : Region.noSelect l.toArray = true) (hf : Region.free md l.toArray listed i = true) (hr : (Region.ready md l.toArray listed).contains i = true)
    (hQ : ∀ c a w, Q (.panic c) (a.put oi.dst v) w → Q (.panic c) a w) (hy : YieldsIf P l.toArray S oi v a) (hS : S w)
    (h : wpAnyH P md l.toArray Q S fuel (listed.setIfInBounds i true) (a.put oi.dst v) w) : wpAnyH P md l.toArray Q S (fuel + 1) listed a w :=
  wpAnyH_take (by rw [List.getElem?_toArray]; exact hi) hs hf hr hQ hy hS h
theorem cons_l {P : Program} {md : Region.Mode} {l : List Oper} {Q : Exit → Act → World → Prop} {S : World → Prop} {fuel : Nat} {listed : Array Bool} {a : Act} {w : World} {i : Nat} {o : Oper} {rs : List Nat} (ho : l[i]? = some o)
    (hwant : Region.wanted o (yielded l.toArray a.tmps) = true)
    (h : ∀ K' : Act → World → Prop, Shut (∀ a w, S w → (S w → wpAnyH P md l.toArray Q S fuel (listed.setIfInBounds i true) a w) → K' a w) → Oper.wp P o a w K' Q)
    (hs : AllReadyH P md l.toArray Q S fuel listed a w rs) : AllReadyH P md l.toArray Q S fuel listed a w (i :: rs) :=
  AllReadyH.cons (by rw [List.getElem?_toArray]; exact ho) (fun K' hK => by rw [if_pos hwant]; exact h K' hK) hs
theorem own_nb2 {w W : World} {base n : Nat} {t : TypeId} {v : Value} {xs : List Value} (h : w.ownsRow base t 17 v n xs) (k : Nb w W) : W.ownsRow base t 17 v n xs := by
  refine ⟨h.1, ?_⟩
  rcases h.2 with h0 | ⟨g, cap, cur, h1, h2, h3, h4⟩
  · exact .inl h0
  · exact .inr ⟨g, cap, cur, h1, h2, k.block h3, h4⟩
theorem fence_cells {p s : Int} {v0 v1 v2 v3 v4 v5 v6 v7 v8 v9 v10 v11 v12 v13 v14 v15 v16 : Value} (h : (fenceD p s).cells.toArray = #[v0, v1, v2, v3, v4, v5, v6, v7, v8, v9, v10, v11, v12, v13, v14, v15, v16]) : (fenceD 3 3).cells = [v0, v1, v2, v3, v4, v5, v6, v7, .int .i64 3, .int .i64 3, v10, v11, v12, v13, v14, v15, v16] := by
  have h2 := congrArg Array.toList h
  simp only [OpD.cells, fenceD, List.cons.injEq] at h2
  obtain ⟨rfl, rfl, rfl, rfl, rfl, rfl, rfl, rfl, rfl, rfl, rfl, rfl, rfl, rfl, rfl, rfl, rfl, -⟩ := h2
  rfl
end Go.Proofs.Yticifolljhplmaa.orderMore
