/-
  Proved here: apart of the code: whether two operations return a byte, to which nothing between them stores, by unlike IDs. Conditions: the pointers point at operations; there are at most a million between.
-/
import Derived.Test.YticifolljhplmaaYk
import Derived.Test.YticifolljhplmaaYj
import Derived.Test.YticifolljhplmaaYr
import Derived.RangeFuncFrom
import Derived.Sort.QuietIn
namespace Go.Proofs.Yticifolljhplmaa
open Go.RowKit Go.Sort Go.Shelf
set_option linter.unusedVariables false
set_option linter.unusedSimpArgs false
set_option maxRecDepth 100000
set_option maxHeartbeats 4000000
/-- Do two operations return a byte by unlike IDs? -/
def diffB (a b : OpD) (x : Int) : Bool := a.from_.getD (x - (retS a).1).toNat 0 != b.from_.getD (x - (retS b).1).toNat 0
def apartS (a b : OpD) (l : List OpD) : Bool := (bareS (comS (retS a) (retS b)) l).any (diffB a b)
def AllF (a b : OpD) {s : Int × Int} (pre : List (ByteOf s)) : Prop := ∀ y ∈ pre, diffB a b y.1 = false
def SomeT (a b : OpD) {s : Int × Int} (pre : List (ByteOf s)) : Prop := ∃ y ∈ pre, diffB a b y.1 = true
/-- Two cells of a block that was there. -/
def S2 (wr : World) (B : Nat) (x y : Value) (w' : World) : Prop := Nb wr w' ∧ w'.cell? ⟨B, 0, none⟩ = some x ∧ w'.cell? ⟨B, 1, none⟩ = some y
theorem S2.of {wr w' : World} {B : Nat} {x y : Value} {t : TypeId} {cs : Array Value} (hb : wr.heap[B]? = some (.cells cs t (0, 0))) (h0 : wr.cell? ⟨B, 0, none⟩ = some x) (h1 : wr.cell? ⟨B, 1, none⟩ = some y) (h : Nb wr w') : S2 wr B x y w' := ⟨h, h.cell h0, h.cell h1⟩
theorem Nb.drew1 {a b : World} (h : Nb a b) : Nb a b.drew := h.drewN 1
theorem two_at {w : World} {g : Nat} {a b : Value} {t : TypeId} (h : w.heap[g]? = some (.cells #[a, b] t (0, 0))) : w.cell? ⟨g, 0, none⟩ = some a ∧ w.cell? ⟨g, 1, none⟩ = some b ∧ w.frozen? ⟨g, 0, none⟩ = false ∧ w.frozen? ⟨g, 1, none⟩ = false := cells2 h
theorem ret_len {d : OpD} (h : d.Ok) : (retS d).2 - (retS d).1 + 1 ≤ 20 := by
  cases hE : emptyS (retS d) with
  | false => have := (ret_facts h hE).2.1; have := h.fl; omega
  | true => have : (retS d).2 < (retS d).1 := by simpa [emptyS] using hE
            omega
theorem from_at {w : World} {b o : Nat} {d : OpD} (h : OpAt w b o d) {i : Nat} (hi : i < d.from_.length) : ∃ (fb fo fc : Nat), w.cell? ⟨b, o + 12, none⟩ = some (.slice (some ⟨fb, fo, none⟩) d.from_.length fc) ∧ w.cell? ⟨fb, fo + i, none⟩ = some (.int .i64 (d.from_.getD i 0)) ∧ d.from_.length ≤ fc := by
  have h12 := h.c12
  rcases h.rf with ⟨_, e⟩ | ⟨fb, fo, fc, hv, _, hc, hx⟩
  · rw [e] at hi; simp at hi
  · refine ⟨fb, fo, fc, by rw [h12, hv], hx i _ ?_, hc⟩
    rw [List.getD_eq_getElem?_getD, List.getElem?_eq_getElem hi]; rfl
/-- Between two rounds. -/
structure ApI (w : World) (ab ao bb bo g3 g4 : Nat) (v : Value) (a1 a2 b1 b2 : Int) (W : World) : Prop where
  nb : Nb w W
  p0 : W.heap[w.heap.size]? = some (.cells #[.pointer (some ⟨ab, ao, none⟩), .pointer (some ⟨bb, bo, none⟩), v] 67 (0, 0))
  p1 : W.heap[w.heap.size + 1]? = some (.cells #[.bool false] 4 (0, 0))
  h3 : W.heap[g3]? = some (.cells #[.int .u64 a1, .int .u64 a2] 70 (0, 0))
  h4 : W.heap[g4]? = some (.cells #[.int .u64 b1, .int .u64 b2] 70 (0, 0))
theorem Nb.grown {w W W' : World} {row : Option Nat} (h : Nb w W) (hg : W.grownBy W' row) (hr : ∀ r, row = some r → w.heap.size ≤ r) : Nb w W' :=
  ⟨hg.os.trans h.os, hg.tape.trans h.tape, hg.output.trans h.output, Nat.le_trans h.size hg.size, fun j hj => (hg.block j (by have := h.size; omega) (by intro e; have := hr j e.symm; omega)).trans (Below.block h j hj)⟩
theorem ApI.grown {w : World} {ab ao bb bo g3 g4 : Nat} {v : Value} {a1 a2 b1 b2 : Int} {W W' : World} {row : Option Nat} (h : ApI w ab ao bb bo g3 g4 v a1 a2 b1 b2 W) (hg : W.grownBy W' row) {M : Nat} (hr : ∀ r, row = some r → M ≤ r) (m0 : w.heap.size + 1 < M) (m3 : g3 < M) (m4 : g4 < M) : ApI w ab ao bb bo g3 g4 v a1 a2 b1 b2 W' := by
  have hne : ∀ j, j < M → some j ≠ row := fun j hj e => by have := hr j e.symm; omega
  exact ⟨h.nb.grown hg (fun r e => by have := hr r e; omega), (hg.block _ (lt_blk h.p0) (hne _ (by omega))).trans h.p0, (hg.block _ (lt_blk h.p1) (hne _ (by omega))).trans h.p1, (hg.block _ (lt_blk h.h3) (hne _ m3)).trans h.h3, (hg.block _ (lt_blk h.h4) (hne _ m4)).trans h.h4⟩
def S5 (wr : World) (g h B : Nat) (a b c d v : Value) (w' : World) : Prop := Nb wr w' ∧ w'.cell? ⟨g, 0, none⟩ = some a ∧ w'.cell? ⟨g, 1, none⟩ = some b ∧ w'.cell? ⟨h, 0, none⟩ = some c ∧ w'.cell? ⟨h, 1, none⟩ = some d ∧ w'.cell? ⟨B, 2, none⟩ = some v
theorem S5.of {wr w' : World} {g h B : Nat} {a b c d v : Value} (e0 : wr.cell? ⟨g, 0, none⟩ = some a) (e1 : wr.cell? ⟨g, 1, none⟩ = some b) (e2 : wr.cell? ⟨h, 0, none⟩ = some c) (e3 : wr.cell? ⟨h, 1, none⟩ = some d) (e4 : wr.cell? ⟨B, 2, none⟩ = some v) (k : Nb wr w') : S5 wr g h B a b c d v w' :=
  ⟨k, k.cell e0, k.cell e1, k.cell e2, k.cell e3, k.cell e4⟩
theorem fin1 {W1 w2 : World} (n : Nb W1 w2) (a b c d : Value) (T : TypeId) : Nb W1 ((w2.alloc (.cells #[a, b] T)).alloc (.cells #[c, d] T)) ∧ ((w2.alloc (.cells #[a, b] T)).alloc (.cells #[c, d] T)).heap[w2.heap.size]? = some (.cells #[a, b] T (0, 0)) ∧ ((w2.alloc (.cells #[a, b] T)).alloc (.cells #[c, d] T)).heap[w2.heap.size + 1]? = some (.cells #[c, d] T (0, 0)) :=
  ⟨(n.alloc _).alloc _, old_blk (new_blk w2 _ rfl) _, new_blk _ _ (by simp)⟩
theorem fin2 {W1 w2 : World} (n : Nb W1 w2) (a b c d : Value) (T : TypeId) : Nb W1 ((w2.alloc (.cells #[c, d] T)).alloc (.cells #[a, b] T)) ∧ ((w2.alloc (.cells #[c, d] T)).alloc (.cells #[a, b] T)).heap[w2.heap.size + 1]? = some (.cells #[a, b] T (0, 0)) ∧ ((w2.alloc (.cells #[c, d] T)).alloc (.cells #[a, b] T)).heap[w2.heap.size]? = some (.cells #[c, d] T (0, 0)) :=
  ⟨(n.alloc _).alloc _, new_blk _ _ (by simp), old_blk (new_blk w2 _ rfl) _⟩
theorem fin3 {W1 w2 : World} {x : Nat} {z z' : Value} {T : TypeId} (n : Nb W1 w2) (hx : w2.heap[x]? = some (.cells #[z, z'] T (0, 0))) (hl : W1.heap.size ≤ x) (a b c d : Value) :
    Nb W1 (((w2.setCell ⟨x, 0, none⟩ a).setCell ⟨x, 1, none⟩ b).alloc (.cells #[c, d] T)) ∧ (((w2.setCell ⟨x, 0, none⟩ a).setCell ⟨x, 1, none⟩ b).alloc (.cells #[c, d] T)).heap[x]? = some (.cells #[a, b] T (0, 0)) ∧ (((w2.setCell ⟨x, 0, none⟩ a).setCell ⟨x, 1, none⟩ b).alloc (.cells #[c, d] T)).heap[w2.heap.size]? = some (.cells #[c, d] T (0, 0)) :=
  ⟨((n.setCell hl _).setCell hl _).alloc _, old_blk (set2 hx a b) _, new_blk _ _ (by simp [World.setCell])⟩
theorem fin4 {W1 w2 : World} {x : Nat} {z z' : Value} {T : TypeId} (n : Nb W1 w2) (hx : w2.heap[x]? = some (.cells #[z, z'] T (0, 0))) (hl : W1.heap.size ≤ x) (a b c d : Value) :
    Nb W1 (((w2.setCell ⟨x, 0, none⟩ c).setCell ⟨x, 1, none⟩ d).alloc (.cells #[a, b] T)) ∧ (((w2.setCell ⟨x, 0, none⟩ c).setCell ⟨x, 1, none⟩ d).alloc (.cells #[a, b] T)).heap[w2.heap.size]? = some (.cells #[a, b] T (0, 0)) ∧ (((w2.setCell ⟨x, 0, none⟩ c).setCell ⟨x, 1, none⟩ d).alloc (.cells #[a, b] T)).heap[x]? = some (.cells #[c, d] T (0, 0)) :=
  let h := fin3 n hx hl c d a b; ⟨h.1, h.2.2, h.2.1⟩
theorem fin5 {W1 w2 : World} {x y : Nat} {z z' u u' : Value} {T : TypeId} (n : Nb W1 w2) (hx : w2.heap[x]? = some (.cells #[z, z'] T (0, 0))) (hy : w2.heap[y]? = some (.cells #[u, u'] T (0, 0))) (hl : W1.heap.size ≤ x) (hm : W1.heap.size ≤ y) (hne : x ≠ y) (a b c d : Value) :
    Nb W1 ((((w2.setCell ⟨x, 0, none⟩ a).setCell ⟨x, 1, none⟩ b).setCell ⟨y, 0, none⟩ c).setCell ⟨y, 1, none⟩ d) ∧ ((((w2.setCell ⟨x, 0, none⟩ a).setCell ⟨x, 1, none⟩ b).setCell ⟨y, 0, none⟩ c).setCell ⟨y, 1, none⟩ d).heap[x]? = some (.cells #[a, b] T (0, 0)) ∧ ((((w2.setCell ⟨x, 0, none⟩ a).setCell ⟨x, 1, none⟩ b).setCell ⟨y, 0, none⟩ c).setCell ⟨y, 1, none⟩ d).heap[y]? = some (.cells #[c, d] T (0, 0)) :=
  ⟨(((n.setCell hl _).setCell hl _).setCell hm _).setCell hm _, ((Below.heap_setCell _ _ _ _ hne).trans (Below.heap_setCell _ _ _ _ hne)).trans (set2 hx a b), set2 ((Below.heap_setCell _ _ _ _ (Ne.symm hne)).trans ((Below.heap_setCell _ _ _ _ (Ne.symm hne)).trans hy)) c d⟩
attribute [local go_sem] Oper.semAt_some
theorem apart_any (ab ao bb bo : Nat) (v : Value) (a b : OpD) (l : List OpD) (w : World) (ha : OpAt w ab ao a) (hb : OpAt w bb bo b) (hl : OpsR w v l) (hn : l.length ≤ 1000000) :
    Calls Try.prog 52 #[pairV ab ao bb bo v] w fun e w' => e = .returned (.bool (apartS a b l)) ∧ Nb w w' := by
  obtain ⟨p, c, rfl, -⟩ := hl.cases
  obtain ⟨N, hN⟩ : ∃ N : Nat, N = 5 := ⟨_, rfl⟩
  have h1 : 1 ≤ N := by omega
  obtain ⟨nl, hnl⟩ : ∃ nl, l.length = nl := ⟨_, rfl⟩
  unfold pairV
  rw [hnl] at hl ⊢
  have hlh := Lib.hid hl
  refine (callsIn_wide (n := N)).1 ?_
  refine callsIn_of_wp_marks Try.func52 rfl trivial ?_ rfl
  simp only [Try.ntmps52, List.size_toArray, List.length_cons, List.length_nil, Nat.reduceAdd, Nat.reduceSub, Array.replicate_succ, Array.replicate_zero, List.push_toArray, List.append_toArray, List.nil_append, List.cons_append]
  refine wpIn_wide.2 ?_
  clear hl hnl
  go_upto_region 1 with (fail)
  obtain ⟨W1, hW⟩ : ∃ W1, (w.alloc (.cells #[.pointer (some ⟨ab, ao, none⟩), .pointer (some ⟨bb, bo, none⟩), .slice p nl c] 67)).alloc (.cells #[.bool false] 4) = W1 := ⟨_, rfl⟩
  have n1 : Nb w W1 := by rw [← hW]; exact ((Nb.refl w).alloc _).alloc _
  have p0 : W1.heap[w.heap.size]? = some (.cells #[.pointer (some ⟨ab, ao, none⟩), .pointer (some ⟨bb, bo, none⟩), .slice p nl c] 67 (0, 0)) := by rw [← hW]; exact old_blk (new_blk w _ rfl) _
  have p1 : W1.heap[w.heap.size + 1]? = some (.cells #[.bool false] 4 (0, 0)) := by rw [← hW]; exact new_blk _ _ (by simp)
  rw [hW]
  clear hW
  have q0 : W1.cell? ⟨w.heap.size, 0, none⟩ = some (.pointer (some ⟨ab, ao, none⟩)) := cell_of_row _ _ 0 _ _ _ p0
  have q1 : W1.cell? ⟨w.heap.size, 1, none⟩ = some (.pointer (some ⟨bb, bo, none⟩)) := cell_of_row _ _ 1 _ _ _ p0
  have hAB : ∀ (A : Addr), A = ⟨ab, ao, none⟩ → ∀ w1, Nb W1 w1 → Calls Try.prog 59 #[.pointer (some A)] w1 fun e w' => e = .returned (.agg #[.int .u64 (retS a).1, .int .u64 (retS a).2]) ∧ Nb w1 w' := by
    intro A e w1 h
    subst e
    exact returnedBy_any ab ao a w1 (ha.nb (n1.trans h))
  have hBB : ∀ (A : Addr), A = ⟨bb, bo, none⟩ → ∀ w1, Nb W1 w1 → Calls Try.prog 59 #[.pointer (some A)] w1 fun e w' => e = .returned (.agg #[.int .u64 (retS b).1, .int .u64 (retS b).2]) ∧ Nb w1 w' := by
    intro A e w1 h
    subst e
    exact returnedBy_any bb bo b w1 (hb.nb (n1.trans h))
  have hA' := Lib.hid hAB
  have hB' := Lib.hid hBB
  have hah := Lib.hid ha
  have hbh := Lib.hid hb
  clear hAB hBB ha hb
  obtain ⟨a1, ea1⟩ : ∃ a1, (retS a).1 = a1 := ⟨_, rfl⟩
  obtain ⟨a2, ea2⟩ : ∃ a2, (retS a).2 = a2 := ⟨_, rfl⟩
  obtain ⟨b1, eb1⟩ : ∃ b1, (retS b).1 = b1 := ⟨_, rfl⟩
  obtain ⟨b2, eb2⟩ : ∃ b2, (retS b).2 = b2 := ⟨_, rfl⟩
  rw [ea1, ea2] at hA'
  rw [eb1, eb2] at hB'
  have hea := Lib.hid (show retS a = (a1, a2) by rw [← ea1, ← ea2])
  have heb := Lib.hid (show retS b = (b1, b2) by rw [← eb1, ← eb2])
  clear ea1 ea2 eb1 eb2
  have hlt := lt_blk p0
  refine Code.wp_mono (Q := fun e a' w' => e = Exit.normal ∧ ∃ g3 g4 : Nat, a' = { tmps := #[.agg #[.pointer (some ⟨ab, ao, none⟩), .pointer (some ⟨bb, bo, none⟩), .slice p nl c], .pointer (some ⟨w.heap.size, 0, none⟩), .pointer (some ⟨w.heap.size + 1, 0, none⟩), .pointer (some ⟨g3, 0, none⟩), .pointer (some ⟨g4, 0, none⟩), undef, .pointer (some ⟨w.heap.size, 0, none⟩), .pointer (some ⟨ab, ao, none⟩), .agg #[.int .u64 a1, .int .u64 a2], .pointer (some ⟨w.heap.size, 1, none⟩), .pointer (some ⟨bb, bo, none⟩), .agg #[.int .u64 b1, .int .u64 b2], undef, undef, undef, undef, undef, undef, undef, undef, undef, undef, undef, undef, undef, undef, undef, undef, undef, undef, undef, undef, undef, undef, undef, undef, undef, undef, undef, undef, undef, undef], defers := [] } ∧ Nb W1 w' ∧ w'.heap[g3]? = some (.cells #[.int .u64 a1, .int .u64 a2] 70 (0, 0)) ∧ w'.heap[g4]? = some (.cells #[.int .u64 b1, .int .u64 b2] 70 (0, 0))) ?imp ?region
  case region =>
    go_region_held3 (fun w' => Nb W1 w' ∧ w'.cell? ⟨w.heap.size, 0, none⟩ = some (.pointer (some ⟨ab, ao, none⟩)) ∧ w'.cell? ⟨w.heap.size, 1, none⟩ = some (.pointer (some ⟨bb, bo, none⟩)))
      (first
        | (with_reducible assumption)
        | (refine S2.of p0 q0 q1 ?_; repeat (first | (with_reducible first | assumption | exact Nb.refl _ | refine Nb.drew1 ?_ | refine Nb.alloc ?_ _ | refine Nb.trans ?_ hn2 | refine Nb.trans ?_ hn1) | refine Nb.setCell ?_ (by first | exact Nat.le_refl _ | (show W1.heap.size ≤ _; simp only [World.size_alloc, heap_drew]; omega)) _)))
      (first
        | (go_at_call 59; refine (hA'.out _ ?_ _ ?_).mono ?_; exact rfl; (focus (repeat (first | (with_reducible first | assumption | exact Nb.refl _ | refine Nb.drew1 ?_ | refine Nb.alloc ?_ _ | refine Nb.trans ?_ hn2 | refine Nb.trans ?_ hn1)))); rintro e w1 ⟨rfl, hn1⟩; have hs1 : W1.heap.size ≤ w1.heap.size := Nb.size (show Nb W1 w1 by repeat (first | (with_reducible first | assumption | exact Nb.refl _ | refine Nb.drew1 ?_ | refine Nb.alloc ?_ _ | refine Nb.trans ?_ hn2 | refine Nb.trans ?_ hn1))); (try (have hk1 := Nb.block hn1 (new_blk _ _ rfl); (try simp only [World.size_alloc, heap_drew] at hk1); have lhk1 := lt_blk hk1; (try simp only [World.size_alloc, heap_drew] at lhk1); obtain ⟨za0, za1, za2, za3⟩ := two_at hk1)); (try (have hk2 := Nb.block hn1 (old_blk (new_blk _ _ rfl) _); (try simp only [World.size_alloc, heap_drew] at hk2); have lhk2 := lt_blk hk2; (try simp only [World.size_alloc, heap_drew] at lhk2); obtain ⟨zb0, zb1, zb2, zb3⟩ := two_at hk2)))
        | (go_at_call 59; refine (hB'.out _ ?_ _ ?_).mono ?_; exact rfl; (focus (repeat (first | (with_reducible first | assumption | exact Nb.refl _ | refine Nb.drew1 ?_ | refine Nb.alloc ?_ _ | refine Nb.trans ?_ hn2 | refine Nb.trans ?_ hn1)))); rintro e w2 ⟨rfl, hn2⟩; have hs2 : W1.heap.size ≤ w2.heap.size := Nb.size (show Nb W1 w2 by repeat (first | (with_reducible first | assumption | exact Nb.refl _ | refine Nb.drew1 ?_ | refine Nb.alloc ?_ _ | refine Nb.trans ?_ hn2 | refine Nb.trans ?_ hn1))); (try (have hm1 := Nb.block hn2 hk1; (try simp only [World.size_alloc, heap_drew] at hm1); have lhm1 := lt_blk hm1; (try simp only [World.size_alloc, heap_drew] at lhm1); obtain ⟨zc0, zc1, zc2, zc3⟩ := two_at hm1)); (try (have hm5 := Nb.block hn2 (old_blk hk1 _); (try simp only [World.size_alloc, heap_drew] at hm5); have lhm5 := lt_blk hm5; (try simp only [World.size_alloc, heap_drew] at lhm5); obtain ⟨zg0, zg1, zg2, zg3⟩ := two_at hm5)); (try (have hm2 := Nb.block hn2 hk2; (try simp only [World.size_alloc, heap_drew] at hm2); have lhm2 := lt_blk hm2; (try simp only [World.size_alloc, heap_drew] at lhm2); obtain ⟨zd0, zd1, zd2, zd3⟩ := two_at hm2)); (try (have hm3 := Nb.block hn2 (new_blk _ _ rfl); (try simp only [World.size_alloc, heap_drew] at hm3); have lhm3 := lt_blk hm3; (try simp only [World.size_alloc, heap_drew] at lhm3); obtain ⟨ze0, ze1, ze2, ze3⟩ := two_at hm3)); (try (have hm4 := Nb.block hn2 (old_blk (new_blk _ _ rfl) _); (try simp only [World.size_alloc, heap_drew] at hm4); have lhm4 := lt_blk hm4; (try simp only [World.size_alloc, heap_drew] at lhm4); obtain ⟨zf0, zf1, zf2, zf3⟩ := two_at hm4))))
    all_goals
      have n2 : Nb W1 w2 := by
        with_reducible first
          | exact ((Nb.refl W1).drew1.trans hn1).trans hn2
          | exact (((Nb.refl W1).drew1.trans hn1).alloc _).trans hn2
          | exact ((((Nb.refl W1).drew1.trans hn1).alloc _).alloc _).trans hn2
          | exact (((Nb.refl W1).alloc _).drew1.trans hn1).trans hn2
          | exact ((((Nb.refl W1).alloc _).drew1.trans hn1).alloc _).trans hn2
          | exact (((((Nb.refl W1).alloc _).drew1.trans hn1).alloc _).alloc _).trans hn2
          | exact ((((Nb.refl W1).alloc _).alloc _).drew1.trans hn1).trans hn2
          | exact (((((Nb.refl W1).alloc _).alloc _).drew1.trans hn1).alloc _).trans hn2
          | exact ((((((Nb.refl W1).alloc _).alloc _).drew1.trans hn1).alloc _).alloc _).trans hn2
      clear hn1 hn2
      refine ⟨rfl, _, _, rfl, ?_⟩
      with_reducible first
        | exact fin1 n2 _ _ _ _ _
        | exact fin2 n2 _ _ _ _ _
        | exact fin3 n2 (by assumption) (by omega) _ _ _ _
        | exact fin4 n2 (by assumption) (by omega) _ _ _ _
        | exact fin5 n2 (by assumption) (by assumption) (by omega) (by omega) (by omega) _ _ _ _
        | trace_state
  case imp =>
    rintro e a' w' ⟨rfl, g3, g4, rfl, nb, h3, h4⟩
    dsimp only
    clear hA' hB' q0 q1
    have p0' := nb.block p0
    have p1' := nb.block p1
    obtain ⟨x0, x1, -, -⟩ := cells2 h3
    obtain ⟨y0, y1, -, -⟩ := cells2 h4
    have z2 : w'.cell? ⟨w.heap.size, 2, none⟩ = some (.slice p nl c) := cell_of_row _ _ 2 _ _ _ p0'
    have hCo := fun w1 => common_any a1 a2 b1 b2 w1
    obtain ⟨C1, hC1⟩ : ∃ C1, (comS (a1, a2) (b1, b2)).1 = C1 := ⟨_, rfl⟩
    obtain ⟨C2, hC2⟩ : ∃ C2, (comS (a1, a2) (b1, b2)).2 = C2 := ⟨_, rfl⟩
    rw [hC1, hC2] at hCo
    have hcom := Lib.hid (show comS (a1, a2) (b1, b2) = (C1, C2) by rw [← hC1, ← hC2])
    have hCo' := Lib.hid hCo
    clear hC1 hC2 hCo
    go_upto_region 2 with (fail)
    go_region_held3 (fun v => Nb w' v ∧ v.cell? ⟨g3, 0, none⟩ = some (.int .u64 a1) ∧ v.cell? ⟨g3, 1, none⟩ = some (.int .u64 a2) ∧ v.cell? ⟨g4, 0, none⟩ = some (.int .u64 b1) ∧ v.cell? ⟨g4, 1, none⟩ = some (.int .u64 b2) ∧ v.cell? ⟨w.heap.size, 2, none⟩ = some (.slice p nl c))
      (first
        | (with_reducible assumption)
        | (refine S5.of x0 x1 y0 y1 z2 ?_; repeat (with_reducible first | assumption | exact Nb.refl _ | refine Nb.drew1 ?_ | refine Nb.alloc ?_ _ | refine Nb.trans ?_ hn1)))
      (first
        | (go_at_call 51; refine (hCo'.out _).mono ?_; rintro e w3 ⟨rfl, hn1⟩)
        | (go_at_call 60; refine (bare_any _ _ _ _ _ _).mono ?_; rintro e w4 ⟨rfl, rfl⟩))
    obtain ⟨W8, e8⟩ : ∃ W8, (w3.alloc (.cells #[.int .u64 C1, .int .u64 C2] 70)).alloc (.cells #[.slice p nl c] 22) = W8 := ⟨_, rfl⟩
    have n38 : Nb w' W8 := by
      rw [← e8]
      first
        | exact (((Nb.refl w').drew1.trans hn1).alloc _).alloc _
        | exact (((Nb.refl w').trans hn1).alloc _).alloc _
    have c1 : W8.heap[w3.heap.size]? = some (.cells #[.int .u64 C1, .int .u64 C2] 70 (0, 0)) := by rw [← e8]; exact old_blk (new_blk _ _ rfl) _
    have c2 : W8.heap[w3.heap.size + 1]? = some (.cells #[.slice p nl c] 22 (0, 0)) := by rw [← e8]; exact new_blk _ _ (by simp)
    have hAI : ApI w ab ao bb bo g3 g4 (.slice p nl c) a1 a2 b1 b2 W8 := ⟨(n1.trans nb).trans n38, n38.block p0', n38.block p1', n38.block h3, n38.block h4⟩
    rw [e8]
    clear e8 x0 x1 y0 y1 z2 hn1 p0' p1' h3 h4 p0 p1
    have l3 := lt_blk hAI.h3
    have l4 := lt_blk hAI.h4
    have l1 := lt_blk hAI.p1
    have hAIh := Lib.hid hAI
    have hia := Lib.hid (show InS (a1, a2) by rw [← hea.out]; exact ret_in hah.out.ok)
    have hib := Lib.hid (show InS (b1, b2) by rw [← heb.out]; exact ret_in hbh.out.ok)
    have hci : InS (C1, C2) := by rw [← hcom.out]; exact com_in hia.out hib.out
    have hce := hcom.out
    unfold comS at hce
    simp only [Prod.mk.injEq] at hce
    have hla := ret_len hah.out.ok
    rw [hea.out] at hla
    simp only at hla
    have hlenC : C2 - C1 + 1 ≤ 1000 := by omega
    have hce' := Lib.hid hce
    have hO8 := hlh.out.nb hAI.nb
    clear hce hla nb n38
    go_wp2_with fail
    refine (wpIn_wide (n := N)).1 ?_
    apply wpIn_rangeFunc_ownF rfl h1 (gf := 64) (lb := #[.pointer (some ⟨w3.heap.size, 0, none⟩), .pointer (some ⟨w3.heap.size + 1, 0, none⟩)]) rfl trivial (enters_of Try.func64 (by kernel_rfl) rfl)
      (bare_stops (N - 1) (by omega) w3.heap.size (w3.heap.size + 1) (C1, C2) hci hlenC (.slice p nl c) l hn W8 c1 c2 hO8) (fun h k => KpT.trans h k) (fun W l o o' _ h hc _ => KpT.putObj o' h hc) (Below.refl _ _) (fun _ => rfl)
      (fun (pre : List (ByteOf (C1, C2))) W => AllF a b pre ∧ ApI w ab ao bb bo g3 g4 (.slice p nl c) a1 a2 b1 b2 W)
      (fun cd (pre : List (ByteOf (C1, C2))) W => cd = .ret ∧ SomeT a b pre ∧ W.heap[w.heap.size + 1]? = some (.cells #[.bool true] 4 (0, 0)) ∧ Nb w W)
      (fun s A B row hs hg hr => ⟨hs.1, hs.2.grown hg (fun r e => (hr r e).1) l1 l3 l4⟩)
      (fun cd s A B row hs hg hr => ⟨hs.1, hs.2.1, (hg.block _ (lt_blk hs.2.2.1) (by intro e; have := (hr _ e.symm).1; omega)).trans hs.2.2.1, hs.2.2.2.grown hg (fun r e => by have := (hr r e).1; omega)⟩)
      ⟨fun y hy => (by cases hy), hAI⟩
    case hassign =>
      intro l x W K hK
      gi_wp2
      exact hK
    case hbody =>
      rintro l0 pre x W ⟨hpre, hI⟩ _
      have hce := hce'.out
      have hxa : a1 ≤ x.1 ∧ x.1 ≤ a2 := by have h1 : C1 ≤ x.1 := x.2.1; have h2 : x.1 ≤ C2 := x.2.2; omega
      have hxb : b1 ≤ x.1 ∧ x.1 ≤ b2 := by have h1 : C1 ≤ x.1 := x.2.1; have h2 : x.1 ≤ C2 := x.2.2; omega
      have hEa : emptyS (retS a) = false := by rw [hea.out]; simp only [emptyS, decide_eq_false_iff_not]; omega
      have hEb : emptyS (retS b) = false := by rw [heb.out]; simp only [emptyS, decide_eq_false_iff_not]; omega
      have hfa := (ret_facts hah.out.ok hEa).2.1
      have hfb := (ret_facts hbh.out.ok hEb).2.1
      rw [hea.out] at hfa
      rw [heb.out] at hfb
      simp only at hfa hfb
      obtain ⟨i, hi⟩ : ∃ i : Nat, x.1 - a1 = (i : Int) := ⟨(x.1 - a1).toNat, by omega⟩
      obtain ⟨j, hj⟩ : ∃ j : Nat, x.1 - b1 = (j : Int) := ⟨(x.1 - b1).toNat, by omega⟩
      obtain ⟨fa, oa, ca, k12, kc, kcap⟩ := from_at (hah.out.nb hI.nb) (i := i) (by omega)
      obtain ⟨fb, ob, cb, m12, mc, mcap⟩ := from_at (hbh.out.nb hI.nb) (i := j) (by omega)
      obtain ⟨ia0, ia1, -, -⟩ := hia.out
      obtain ⟨ib0, ib1, -, -⟩ := hib.out
      obtain ⟨ic0, ic1, ic2, ic3⟩ := hci
      have hx0 : x.1 < 18446744073709551616 := by have : x.1 ≤ C2 := x.2.2; omega
      have e1 : IntKind.u64.wrap (x.1 - a1) = (i : Int) := by rw [IntKind.wrap_u64]; omega
      have e2 : IntKind.u64.wrap (x.1 - b1) = (j : Int) := by rw [IntKind.wrap_u64]; omega
      have hil : (i : Int) < (a.from_.length : Int) := by omega
      have hjl : (j : Int) < (b.from_.length : Int) := by omega
      have q0 : W.cell? ⟨w.heap.size, 0, none⟩ = some (.pointer (some ⟨ab, ao, none⟩)) := cell_of_row _ _ 0 _ _ _ hI.p0
      have q1 : W.cell? ⟨w.heap.size, 1, none⟩ = some (.pointer (some ⟨bb, bo, none⟩)) := cell_of_row _ _ 1 _ _ _ hI.p0
      obtain ⟨r0, -, -, -⟩ := cells2 hI.h3
      obtain ⟨s0, -, -, -⟩ := cells2 hI.h4
      have hix := Lib.hid (show (x.1 - a1).toNat = i by omega)
      have hjx := Lib.hid (show (x.1 - b1).toNat = j by omega)
      have hIh := Lib.hid hI
      have hpre' := Lib.hid hpre
      have c1' : W.cell? ⟨w.heap.size + 1, 0, none⟩ = some (.bool false) := cell_of_row _ _ 0 _ _ _ hI.p1
      have f1' := frozen_blk hI.p1 0
      obtain ⟨ua, hua⟩ : ∃ ua, a.from_.getD i 0 = ua := ⟨_, rfl⟩
      obtain ⟨ub, hub⟩ : ∃ ub, b.from_.getD j 0 = ub := ⟨_, rfl⟩
      rw [hua] at kc
      rw [hub] at mc
      have hval := Lib.hid (show diffB a b x.1 = (ua != ub) by unfold diffB; rw [hea.out, heb.out]; show (a.from_.getD (x.1 - a1).toNat 0 != b.from_.getD (x.1 - b1).toNat 0) = _; rw [hix.out, hjx.out, hua, hub])
      generalize a.from_.length = na at *
      generalize b.from_.length = nbb at *
      clear hce hxa hxb hEa hEb hfa hfb hi hj hua hub hI hpre ia0 ia1 ib0 ib1 ic0 ic1 ic2 ic3 hAI l1 l3 l4 c1 c2 hO8
      gi_wp2
      refine quiet_round l0 (by kernel_rfl) (by kernel_rfl) (by kernel_rfl) ?_
      repeat (quiet_step_in (fail))
      refine wpQuietIn_nil ?_
      intro x9 hw9
      obtain ⟨nq, rfl⟩ := hw9
      have hnd := Lib.hid ((hIh.out.nb).drewN nq)
      cases hne : (ua != ub) with
      | true =>
        have hd := Lib.hid (hval.out.trans hne)
        have hset := Lib.hid (set_blk (w := W.drewN nq) hIh.out.p1 0 (.bool true))
        gi_wp2
        have hk := KeepsOthers.setCell (W.drewN nq) ⟨w.heap.size + 1, 0, none⟩ (.bool true)
        refine ⟨⟨hk.1, hk.2⟩, rfl, ⟨x, by simp, hd.out⟩, ?_, hnd.out.setCell (p := ⟨w.heap.size + 1, 0, none⟩) (by show w.heap.size ≤ w.heap.size + 1; omega) _⟩
        have := hset.out
        simpa using this
      | false =>
        have hd := Lib.hid (hval.out.trans hne)
        gi_wp2
        refine ⟨⟨Nat.le_refl _, fun _ _ h _ => h⟩, KpT.nb ((Nb.refl W).drewN nq), ?_, ⟨hnd.out, hIh.out.p0, hIh.out.p1, hIh.out.h3, hIh.out.h4⟩⟩
        intro y hy
        rcases List.mem_append.1 hy with h | h
        · exact hpre'.out y h
        · simp at h; subst h; exact hd.out
    case hdone =>
      rintro D ys W hD hys ⟨hpre, hP⟩ hK
      have hp1 := hP.p1
      have c1 : W.cell? ⟨w.heap.size + 1, 0, none⟩ = some (.bool false) := cell_of_row _ _ 0 _ _ _ hp1
      have f1 := frozen_blk hp1 0
      have hnb := Lib.hid hP.nb
      have hK0 := Lib.hid hK
      have hp1' := Lib.hid hp1
      have hno : apartS a b l = false := by
        unfold apartS
        rw [hea.out, heb.out, hcom.out, ← hys, List.any_map, List.any_eq_false]
        intro y hy
        simp [hpre y hy]
      have hno' := Lib.hid hno
      clear hP hpre hys hno hp1
      gi_wp2
      go_wp2_with fail
      have hK' := (KeepsOthers.setCell W ⟨w.heap.size + 1, 0, none⟩ (.bool false)).same D _ hK0.out rfl
      refine ⟨by simp, .inl ⟨_, _, rfl, run_takeDeferred hK', ?_⟩⟩
      have hc5 : ((W.setCell ⟨w.heap.size + 1, 0, none⟩ (.bool false)).putObj D (.deferred none)).cell? ⟨w.heap.size + 1, 0, none⟩ = some (.bool false) :=
        cell_kept (World.cell?_setCell_same' W ⟨w.heap.size + 1, 0, none⟩ (.bool false) (by rw [c1]; rfl)) (grownBy_putObj' _ D (.deferred none)) (fun r e => by cases e; exact ⟨_, hK', rfl⟩)
      refine ⟨.bool false, ?_, by rw [hno'.out], Below.trans (Below.setCell hnb.out (p := ⟨w.heap.size + 1, 0, none⟩) (by show w.heap.size ≤ w.heap.size + 1; omega) _) (belowK_b (w := w) (Nat.le_refl _) _ D _ _ (by omega) hK' rfl rfl)⟩
      simp [results, Try.f52, go_sem, hc5]
    case hstop =>
      rintro D cd pre W hD hpre ⟨rfl, hin, hb1, hnb⟩ hK
      have c1 : W.cell? ⟨w.heap.size + 1, 0, none⟩ = some (.bool true) := cell_of_row _ _ 0 _ _ _ hb1
      have hyes : apartS a b l = true := by
        unfold apartS
        rw [hea.out, heb.out, hcom.out, List.any_eq_true]
        obtain ⟨y, hy, h⟩ := hin
        exact ⟨y.1, hpre.subset (List.mem_map.2 ⟨y, hy, rfl⟩), h⟩
      have hyes' := Lib.hid hyes
      have hnb' := Lib.hid hnb
      have hK0 := Lib.hid hK
      clear hyes hin hpre hnb
      gi_wp2
      go_wp2_with fail
      refine ⟨by simp, .inl ⟨_, _, rfl, run_takeDeferred hK0.out, ?_⟩⟩
      have hc5 := cell_kept c1 (grownBy_putObj' _ D (.deferred none)) (fun r e => by cases e; exact ⟨_, hK0.out, rfl⟩)
      refine ⟨.bool true, ?_, by rw [hyes'.out], Below.trans hnb'.out (belowK_b (w := w) (Nat.le_refl _) W D _ _ (by omega) hK0.out rfl rfl)⟩
      simp [results, Try.f52, go_sem, hc5]
end Go.Proofs.Yticifolljhplmaa
