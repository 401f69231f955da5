/-
  Proved here: of lex: wordAt. Conditions: the slice holds the source.
-/
import Derived.Test.YticifolljhplmaaKc
import Derived.Laws.ResultCell
namespace Go.Proofs.Yticifolljhplmaa
open Go.RowKit
set_option linter.unusedVariables false
set_option linter.unusedSimpArgs false
set_option maxRecDepth 100000
set_option maxHeartbeats 2000000
/-- A word's cells. -/
abbrev tkC (kd at_ : Int) (tx : Bs) (v : Int) : Array Value := #[.int .i64 kd, .int .i64 at_, .string ⟨tx.toArray⟩, .int .i64 v]
theorem tk4 {w : World} {g : Nat} {a b c d : Value} {t : TypeId} (h : w.heap[g]? = some (.cells #[a, b, c, d] t (0, 0))) :
    (w.cell? ⟨g, 0, none⟩ = some a ∧ w.cell? ⟨g, 1, none⟩ = some b ∧ w.cell? ⟨g, 2, none⟩ = some c ∧ w.cell? ⟨g, 3, none⟩ = some d) ∧ w.frozen? ⟨g, 0, none⟩ = false ∧ w.frozen? ⟨g, 1, none⟩ = false ∧ w.frozen? ⟨g, 2, none⟩ = false ∧ w.frozen? ⟨g, 3, none⟩ = false :=
  ⟨⟨cell_of_row _ _ 0 _ _ _ h, cell_of_row _ _ 1 _ _ _ h, cell_of_row _ _ 2 _ _ _ h, cell_of_row _ _ 3 _ _ _ h⟩, frozen_blk h 0, frozen_blk h 1, frozen_blk h 2, frozen_blk h 3⟩
theorem set4_all {w : World} {n : Nat} {t : TypeId} {a b c d : Value} (x y z u : Value) (h : w.heap[n]? = some (.cells #[a, b, c, d] t (0, 0))) :
    ((((w.setCell ⟨n, 0, none⟩ x).setCell ⟨n, 1, none⟩ y).setCell ⟨n, 2, none⟩ z).setCell ⟨n, 3, none⟩ u).heap[n]? = some (.cells #[x, y, z, u] t (0, 0)) := by
  have h1 := set_blk h 0 x
  have h2 := set_blk h1 1 y
  have h3 := set_blk h2 2 z
  have h4 := set_blk h3 3 u
  simpa using h4
theorem two_made {w W : World} {o1 o2 : Obj} (h : (w.alloc o1).alloc o2 = W) : W.heap[w.heap.size]? = some o1 ∧ W.heap[w.heap.size + 1]? = some o2 ∧ Nb w W := by
  subst h
  exact ⟨old_blk (new_blk _ _ rfl) _, new_blk _ _ (by rw [World.size_alloc]), ((Nb.refl _).alloc _).alloc _⟩
theorem results_rt {fn : Func} {p u : Tmp} {ty : TypeId} {P : Program} (h : fn.results = #[.cell p ty, .tmp u]) (tmps : Array Value) (w : World) (g : Nat) (cs : Array Value)
    (hp : tmps.getD p undef = .pointer (some ⟨g, 0, none⟩)) (hl : (loadVar ty ⟨g, 0, none⟩).run P w = .ok (.agg cs) w) :
    (results fn tmps).run P w = .ok (.tuple #[.agg cs, tmps.getD u undef]) w := by
  rw [results_cell_tmp h, hp]
  have e : (asAddr (.pointer (some ⟨g, 0, none⟩))).run P w = .ok ⟨g, 0, none⟩ w := rfl
  rw [e]
  simp only [Result.andThen_ok, hl]
theorem str_sub {w : World} {ad : Addr} {xs tx : Bs} {lo n c : Nat} (h : SrcB w (some ad) xs) (ht : (xs.drop lo).take n = tx) (hn : lo + n ≤ xs.length) :
    (convert 36 9 (.slice (some (ad.add lo)) n c)).run Try.prog w = .ok (.string ⟨tx.toArray⟩) w := by
  have e : tx.length = n := by rw [← ht]; simp; omega
  subst e
  refine run_convert_bytes_back w _ _ 5 _ c tx Try.underlying36 Try.underlying5 Try.underlying9 fun j hj => ?_
  obtain ⟨ad', hA, hc⟩ := h (by omega)
  obtain rfl := Option.some.inj hA
  rw [Go.Deep.add_add]
  have h1 := hc (lo + j) (tx[j]) (by rw [← List.getElem?_drop, ← List.getElem?_take_of_lt hj, ht]; exact List.getElem?_eq_getElem hj)
  rw [h1]
  simp [bI]
/-- The block of a word, when one of its cells is stored; another block stays. -/
theorem kind_put {w W1 W2 : World} {k : Value} {a b c d : Value} {t : TypeId} (h : W1.setCell ⟨w.heap.size + 1, 0, none⟩ k = W2) (n1 : Nb w W1) (b1 : W1.heap[w.heap.size + 1]? = some (.cells #[a, b, c, d] t (0, 0))) {o : Obj} (b0 : W1.heap[w.heap.size]? = some o) :
    W2.heap[w.heap.size + 1]? = some (.cells #[k, b, c, d] t (0, 0)) ∧ W2.heap[w.heap.size]? = some o ∧ Nb w W2 := by
  subst h
  exact ⟨by rw [set_blk b1 0 k]; rfl, (Below.heap_setCell _ _ _ _ (by show w.heap.size ≠ w.heap.size + 1; omega)).trans b0, n1.setCell (by show w.heap.size ≤ w.heap.size + 1; omega) _⟩
theorem text_put {w W1 W2 : World} {k : Value} {a b c d : Value} {t : TypeId} (h : W1.setCell ⟨w.heap.size + 1, 2, none⟩ k = W2) (n1 : Nb w W1) (b1 : W1.heap[w.heap.size + 1]? = some (.cells #[a, b, c, d] t (0, 0))) {o : Obj} (b0 : W1.heap[w.heap.size]? = some o) :
    W2.heap[w.heap.size + 1]? = some (.cells #[a, b, k, d] t (0, 0)) ∧ W2.heap[w.heap.size]? = some o ∧ Nb w W2 := by
  subst h
  exact ⟨by rw [set_blk b1 2 k]; rfl, (Below.heap_setCell _ _ _ _ (by show w.heap.size ≠ w.heap.size + 1; omega)).trans b0, n1.setCell (by show w.heap.size ≤ w.heap.size + 1; omega) _⟩
theorem num_put {w W1 W2 : World} {k : Value} {a b c d : Value} {t : TypeId} (h : W1.setCell ⟨w.heap.size + 1, 3, none⟩ k = W2) (n1 : Nb w W1) (b1 : W1.heap[w.heap.size + 1]? = some (.cells #[a, b, c, d] t (0, 0))) {o : Obj} (b0 : W1.heap[w.heap.size]? = some o) :
    W2.heap[w.heap.size + 1]? = some (.cells #[a, b, c, k] t (0, 0)) ∧ W2.heap[w.heap.size]? = some o ∧ Nb w W2 := by
  subst h
  exact ⟨by rw [set_blk b1 3 k]; rfl, (Below.heap_setCell _ _ _ _ (by show w.heap.size ≠ w.heap.size + 1; omega)).trans b0, n1.setCell (by show w.heap.size ≤ w.heap.size + 1; omega) _⟩
theorem word_eq (A : Option Addr) (cap : Nat) (xs : Bs) (at_ : Nat) (hx : xs.length ≤ 9223372036854775800) (hc : xs.length ≤ cap) (ha : at_ < xs.length) (ha2 : at_ + 1 < xs.length) (h0 : bI xs[at_] = 61) (h1 : bI xs[at_ + 1] = 61) (w : World) (hS : SrcB w A xs) :
    Calls Try.prog 30 #[.slice A xs.length cap, .int .i64 at_] w fun e w' => e = .returned (.tuple #[.agg (tkC 4 at_ [61, 61] 0), .int .i64 ((at_ + 2 : Nat) : Int)]) ∧ Nb w w' := by
  have hS' := Lib.hid hS
  clear hS
  go_enter Try.func30, Try.ntmps30
  go_upto_region 3 with (fail)
  obtain ⟨W1, hW⟩ : ∃ W1, (w.alloc (Obj.cells #[.int .i64 0, .int .i64 0, .string ⟨#[]⟩, .int .i64 0] 47)).alloc (Obj.cells #[.int .i64 0, .int .i64 at_, .string ⟨#[]⟩, .int .i64 0] 47) = W1 := ⟨_, rfl⟩
  obtain ⟨b0, b1, n1⟩ := two_made hW
  rw [hW]
  clear hW
  obtain ⟨ad, hA, hcell⟩ := (hS'.out.nb n1).cell at_ ha
  have hlt : (at_ : Int) < (xs.length : Int) := by omega
  obtain ⟨ad', hA', hcell'⟩ := (hS'.out.nb n1).cell (at_ + 1) ha2
  obtain rfl : ad = ad' := Option.some.inj (hA.symm.trans hA')
  subst hA
  rw [h0] at hcell
  rw [h1, show ad.add (at_ + 1) = ⟨ad.block, ad.off + (at_ + 1), none⟩ by simp [Addr.add]] at hcell'
  have hlt' : (at_ : Int) + 1 < (xs.length : Int) := by omega
  obtain ⟨⟨c0, c1, c2, c3⟩, f0, f1, f2, f3⟩ := tk4 b1
  repeat (first | (with_reducible first | refine then_exit ?_ | refine in_same ?_ | refine then_ret ?_ | refine in_ret ?_) | ((with_reducible refine in_other ?_ ?_); decide) | go_values | go_skip | go_guarded | go_step | go_upon | go_back)
  clear c0 c1 c2 c3 f0 f1 f2 f3
  obtain ⟨W2, hW⟩ : ∃ W2, W1.setCell ⟨w.heap.size + 1, 0, none⟩ (.int .i64 4) = W2 := ⟨_, rfl⟩
  replace b1 := kind_put hW n1 b1 b0
  obtain ⟨b1, b0, n1⟩ := b1
  rw [hW]
  clear hW
  have hs := str_sub (n := at_ + 1 + 1 - at_) (c := cap - at_) (lo := at_) (tx := [61, 61]) (hS'.out.nb n1) (by
    have e0 : xs[at_] = 61 := UInt8.toNat_inj.1 (by unfold bI at h0; show xs[at_].toNat = 61; omega)
    have e1 : xs[at_ + 1] = 61 := UInt8.toNat_inj.1 (by unfold bI at h1; show xs[at_ + 1].toNat = 61; omega)
    rw [List.drop_eq_getElem_cons ha, List.drop_eq_getElem_cons ha2, e0, e1, show at_ + 1 + 1 - at_ = 2 by omega]; rfl) (by omega)
  obtain ⟨⟨c0, c1, c2, c3⟩, f0, f1, f2, f3⟩ := tk4 b1
  obtain ⟨⟨e0, e1, e2, e3⟩, g0, g1, g2, g3⟩ := tk4 b0
  rw [hs]
  simp only [Result.andThen_ok]
  repeat (first | (with_reducible first | refine then_exit ?_ | refine in_same ?_ | refine then_ret ?_ | refine in_ret ?_) | ((with_reducible refine in_other ?_ ?_); decide) | go_values | go_skip | go_guarded | go_step | go_upon | go_back)
  replace b1 := text_put (k := .string ⟨([61, 61] : Bs).toArray⟩) rfl n1 b1 b0
  obtain ⟨b1, b0, n1⟩ := b1
  refine bodyPost_ret (results_rt rfl _ _ w.heap.size _ rfl (run_loadVar_row _ _ _ _ _ _ _ (set4_all _ _ _ _ b0) Try.underlying47 rfl (by kernel_rfl))) rfl ?_
  exact ⟨by simp [tkC, Array.getD_eq_getD_getElem?] <;> omega, (((n1.setCell (Nat.le_refl _) _).setCell (Nat.le_refl _) _).setCell (Nat.le_refl _) _).setCell (Nat.le_refl _) _⟩

theorem word_eq1 (A : Option Addr) (cap : Nat) (xs : Bs) (at_ : Nat) (hx : xs.length ≤ 9223372036854775800) (hc : xs.length ≤ cap) (ha : at_ < xs.length) (ha2 : at_ + 1 < xs.length) (h0 : bI xs[at_] = 61) (h1 : ¬ bI xs[at_ + 1] = 61) (w : World) (hS : SrcB w A xs) :
    Calls Try.prog 30 #[.slice A xs.length cap, .int .i64 at_] w fun e w' => e = .returned (.tuple #[.agg (tkC 4 at_ [xs[at_]] 0), .int .i64 ((at_ + 1 : Nat) : Int)]) ∧ Nb w w' := by
  have hS' := Lib.hid hS
  clear hS
  go_enter Try.func30, Try.ntmps30
  go_upto_region 3 with (fail)
  obtain ⟨W1, hW⟩ : ∃ W1, (w.alloc (Obj.cells #[.int .i64 0, .int .i64 0, .string ⟨#[]⟩, .int .i64 0] 47)).alloc (Obj.cells #[.int .i64 0, .int .i64 at_, .string ⟨#[]⟩, .int .i64 0] 47) = W1 := ⟨_, rfl⟩
  obtain ⟨b0, b1, n1⟩ := two_made hW
  rw [hW]
  clear hW
  obtain ⟨ad, hA, hcell⟩ := (hS'.out.nb n1).cell at_ ha
  have hlt : (at_ : Int) < (xs.length : Int) := by omega
  obtain ⟨ad', hA', hcell'⟩ := (hS'.out.nb n1).cell (at_ + 1) ha2
  obtain rfl : ad = ad' := Option.some.inj (hA.symm.trans hA')
  rw [show ad.add (at_ + 1) = ⟨ad.block, ad.off + (at_ + 1), none⟩ by simp [Addr.add]] at hcell'
  subst hA
  rw [h0] at hcell
  have hlt' : (at_ : Int) + 1 < (xs.length : Int) := by omega
  obtain ⟨⟨c0, c1, c2, c3⟩, f0, f1, f2, f3⟩ := tk4 b1
  repeat (first | (with_reducible first | refine then_exit ?_ | refine in_same ?_ | refine then_ret ?_ | refine in_ret ?_) | ((with_reducible refine in_other ?_ ?_); decide) | go_values | go_skip | go_guarded | go_step | go_upon | go_back)
  clear c0 c1 c2 c3 f0 f1 f2 f3
  obtain ⟨W2, hW⟩ : ∃ W2, W1.setCell ⟨w.heap.size + 1, 0, none⟩ (.int .i64 4) = W2 := ⟨_, rfl⟩
  replace b1 := kind_put hW n1 b1 b0
  obtain ⟨b1, b0, n1⟩ := b1
  rw [hW]
  clear hW
  have hs := str_sub (n := 1) (c := cap - at_) (lo := at_) (tx := [xs[at_]]) (hS'.out.nb n1) (by
    rw [List.drop_eq_getElem_cons ha]; rfl) (by omega)
  obtain ⟨⟨c0, c1, c2, c3⟩, f0, f1, f2, f3⟩ := tk4 b1
  obtain ⟨⟨e0, e1, e2, e3⟩, g0, g1, g2, g3⟩ := tk4 b0
  rw [hs]
  simp only [Result.andThen_ok]
  repeat (first | (with_reducible first | refine then_exit ?_ | refine in_same ?_ | refine then_ret ?_ | refine in_ret ?_) | ((with_reducible refine in_other ?_ ?_); decide) | go_values | go_skip | go_guarded | go_step | go_upon | go_back)
  replace b1 := text_put (k := .string ⟨([xs[at_]] : Bs).toArray⟩) rfl n1 b1 b0
  obtain ⟨b1, b0, n1⟩ := b1
  refine bodyPost_ret (results_rt rfl _ _ w.heap.size _ rfl (run_loadVar_row _ _ _ _ _ _ _ (set4_all _ _ _ _ b0) Try.underlying47 rfl (by kernel_rfl))) rfl ?_
  exact ⟨by simp [tkC, Array.getD_eq_getD_getElem?] <;> omega, (((n1.setCell (Nat.le_refl _) _).setCell (Nat.le_refl _) _).setCell (Nat.le_refl _) _).setCell (Nat.le_refl _) _⟩

theorem word_eq2 (A : Option Addr) (cap : Nat) (xs : Bs) (at_ : Nat) (hx : xs.length ≤ 9223372036854775800) (hc : xs.length ≤ cap) (ha : at_ < xs.length) (ha2 : ¬ at_ + 1 < xs.length) (h0 : bI xs[at_] = 61) (w : World) (hS : SrcB w A xs) :
    Calls Try.prog 30 #[.slice A xs.length cap, .int .i64 at_] w fun e w' => e = .returned (.tuple #[.agg (tkC 4 at_ [xs[at_]] 0), .int .i64 ((at_ + 1 : Nat) : Int)]) ∧ Nb w w' := by
  have hS' := Lib.hid hS
  clear hS
  go_enter Try.func30, Try.ntmps30
  go_upto_region 3 with (fail)
  obtain ⟨W1, hW⟩ : ∃ W1, (w.alloc (Obj.cells #[.int .i64 0, .int .i64 0, .string ⟨#[]⟩, .int .i64 0] 47)).alloc (Obj.cells #[.int .i64 0, .int .i64 at_, .string ⟨#[]⟩, .int .i64 0] 47) = W1 := ⟨_, rfl⟩
  obtain ⟨b0, b1, n1⟩ := two_made hW
  rw [hW]
  clear hW
  obtain ⟨ad, hA, hcell⟩ := (hS'.out.nb n1).cell at_ ha
  have hlt : (at_ : Int) < (xs.length : Int) := by omega
  subst hA
  rw [h0] at hcell
  have hlt' : ¬ (at_ : Int) + 1 < (xs.length : Int) := by omega
  obtain ⟨⟨c0, c1, c2, c3⟩, f0, f1, f2, f3⟩ := tk4 b1
  repeat (first | (with_reducible first | refine then_exit ?_ | refine in_same ?_ | refine then_ret ?_ | refine in_ret ?_) | ((with_reducible refine in_other ?_ ?_); decide) | go_values | go_skip | go_guarded | go_step | go_upon | go_back)
  clear c0 c1 c2 c3 f0 f1 f2 f3
  obtain ⟨W2, hW⟩ : ∃ W2, W1.setCell ⟨w.heap.size + 1, 0, none⟩ (.int .i64 4) = W2 := ⟨_, rfl⟩
  replace b1 := kind_put hW n1 b1 b0
  obtain ⟨b1, b0, n1⟩ := b1
  rw [hW]
  clear hW
  have hs := str_sub (n := 1) (c := cap - at_) (lo := at_) (tx := [xs[at_]]) (hS'.out.nb n1) (by
    rw [List.drop_eq_getElem_cons ha]; rfl) (by omega)
  obtain ⟨⟨c0, c1, c2, c3⟩, f0, f1, f2, f3⟩ := tk4 b1
  obtain ⟨⟨e0, e1, e2, e3⟩, g0, g1, g2, g3⟩ := tk4 b0
  rw [hs]
  simp only [Result.andThen_ok]
  repeat (first | (with_reducible first | refine then_exit ?_ | refine in_same ?_ | refine then_ret ?_ | refine in_ret ?_) | ((with_reducible refine in_other ?_ ?_); decide) | go_values | go_skip | go_guarded | go_step | go_upon | go_back)
  replace b1 := text_put (k := .string ⟨([xs[at_]] : Bs).toArray⟩) rfl n1 b1 b0
  obtain ⟨b1, b0, n1⟩ := b1
  refine bodyPost_ret (results_rt rfl _ _ w.heap.size _ rfl (run_loadVar_row _ _ _ _ _ _ _ (set4_all _ _ _ _ b0) Try.underlying47 rfl (by kernel_rfl))) rfl ?_
  exact ⟨by simp [tkC, Array.getD_eq_getD_getElem?] <;> omega, (((n1.setCell (Nat.le_refl _) _).setCell (Nat.le_refl _) _).setCell (Nat.le_refl _) _).setCell (Nat.le_refl _) _⟩

theorem word_s40 (A : Option Addr) (cap : Nat) (xs : Bs) (at_ : Nat) (hx : xs.length ≤ 9223372036854775800) (hc : xs.length ≤ cap) (ha : at_ < xs.length) (h0 : bI xs[at_] = 40) (w : World) (hS : SrcB w A xs) :
    Calls Try.prog 30 #[.slice A xs.length cap, .int .i64 at_] w fun e w' => e = .returned (.tuple #[.agg (tkC 4 at_ [xs[at_]] 0), .int .i64 ((at_ + 1 : Nat) : Int)]) ∧ Nb w w' := by
  have hS' := Lib.hid hS
  clear hS
  go_enter Try.func30, Try.ntmps30
  go_upto_region 3 with (fail)
  obtain ⟨W1, hW⟩ : ∃ W1, (w.alloc (Obj.cells #[.int .i64 0, .int .i64 0, .string ⟨#[]⟩, .int .i64 0] 47)).alloc (Obj.cells #[.int .i64 0, .int .i64 at_, .string ⟨#[]⟩, .int .i64 0] 47) = W1 := ⟨_, rfl⟩
  obtain ⟨b0, b1, n1⟩ := two_made hW
  rw [hW]
  clear hW
  obtain ⟨ad, hA, hcell⟩ := (hS'.out.nb n1).cell at_ ha
  have hlt : (at_ : Int) < (xs.length : Int) := by omega
  subst hA
  rw [h0] at hcell
  obtain ⟨⟨c0, c1, c2, c3⟩, f0, f1, f2, f3⟩ := tk4 b1
  repeat (first | (with_reducible first | refine then_exit ?_ | refine in_same ?_ | refine then_ret ?_ | refine in_ret ?_) | ((with_reducible refine in_other ?_ ?_); decide) | go_values | go_skip | go_guarded | go_step | go_upon | go_back)
  clear c0 c1 c2 c3 f0 f1 f2 f3
  obtain ⟨W2, hW⟩ : ∃ W2, W1.setCell ⟨w.heap.size + 1, 0, none⟩ (.int .i64 4) = W2 := ⟨_, rfl⟩
  replace b1 := kind_put hW n1 b1 b0
  obtain ⟨b1, b0, n1⟩ := b1
  rw [hW]
  clear hW
  have hs := str_sub (n := 1) (c := cap - at_) (lo := at_) (tx := [xs[at_]]) (hS'.out.nb n1) (by
    rw [List.drop_eq_getElem_cons ha]; rfl) (by omega)
  obtain ⟨⟨c0, c1, c2, c3⟩, f0, f1, f2, f3⟩ := tk4 b1
  obtain ⟨⟨e0, e1, e2, e3⟩, g0, g1, g2, g3⟩ := tk4 b0
  rw [hs]
  simp only [Result.andThen_ok]
  repeat (first | (with_reducible first | refine then_exit ?_ | refine in_same ?_ | refine then_ret ?_ | refine in_ret ?_) | ((with_reducible refine in_other ?_ ?_); decide) | go_values | go_skip | go_guarded | go_step | go_upon | go_back)
  replace b1 := text_put (k := .string ⟨([xs[at_]] : Bs).toArray⟩) rfl n1 b1 b0
  obtain ⟨b1, b0, n1⟩ := b1
  refine bodyPost_ret (results_rt rfl _ _ w.heap.size _ rfl (run_loadVar_row _ _ _ _ _ _ _ (set4_all _ _ _ _ b0) Try.underlying47 rfl (by kernel_rfl))) rfl ?_
  exact ⟨by simp [tkC, Array.getD_eq_getD_getElem?] <;> omega, (((n1.setCell (Nat.le_refl _) _).setCell (Nat.le_refl _) _).setCell (Nat.le_refl _) _).setCell (Nat.le_refl _) _⟩

theorem word_s41 (A : Option Addr) (cap : Nat) (xs : Bs) (at_ : Nat) (hx : xs.length ≤ 9223372036854775800) (hc : xs.length ≤ cap) (ha : at_ < xs.length) (h0 : bI xs[at_] = 41) (w : World) (hS : SrcB w A xs) :
    Calls Try.prog 30 #[.slice A xs.length cap, .int .i64 at_] w fun e w' => e = .returned (.tuple #[.agg (tkC 4 at_ [xs[at_]] 0), .int .i64 ((at_ + 1 : Nat) : Int)]) ∧ Nb w w' := by
  have hS' := Lib.hid hS
  clear hS
  go_enter Try.func30, Try.ntmps30
  go_upto_region 3 with (fail)
  obtain ⟨W1, hW⟩ : ∃ W1, (w.alloc (Obj.cells #[.int .i64 0, .int .i64 0, .string ⟨#[]⟩, .int .i64 0] 47)).alloc (Obj.cells #[.int .i64 0, .int .i64 at_, .string ⟨#[]⟩, .int .i64 0] 47) = W1 := ⟨_, rfl⟩
  obtain ⟨b0, b1, n1⟩ := two_made hW
  rw [hW]
  clear hW
  obtain ⟨ad, hA, hcell⟩ := (hS'.out.nb n1).cell at_ ha
  have hlt : (at_ : Int) < (xs.length : Int) := by omega
  subst hA
  rw [h0] at hcell
  obtain ⟨⟨c0, c1, c2, c3⟩, f0, f1, f2, f3⟩ := tk4 b1
  repeat (first | (with_reducible first | refine then_exit ?_ | refine in_same ?_ | refine then_ret ?_ | refine in_ret ?_) | ((with_reducible refine in_other ?_ ?_); decide) | go_values | go_skip | go_guarded | go_step | go_upon | go_back)
  clear c0 c1 c2 c3 f0 f1 f2 f3
  obtain ⟨W2, hW⟩ : ∃ W2, W1.setCell ⟨w.heap.size + 1, 0, none⟩ (.int .i64 4) = W2 := ⟨_, rfl⟩
  replace b1 := kind_put hW n1 b1 b0
  obtain ⟨b1, b0, n1⟩ := b1
  rw [hW]
  clear hW
  have hs := str_sub (n := 1) (c := cap - at_) (lo := at_) (tx := [xs[at_]]) (hS'.out.nb n1) (by
    rw [List.drop_eq_getElem_cons ha]; rfl) (by omega)
  obtain ⟨⟨c0, c1, c2, c3⟩, f0, f1, f2, f3⟩ := tk4 b1
  obtain ⟨⟨e0, e1, e2, e3⟩, g0, g1, g2, g3⟩ := tk4 b0
  rw [hs]
  simp only [Result.andThen_ok]
  repeat (first | (with_reducible first | refine then_exit ?_ | refine in_same ?_ | refine then_ret ?_ | refine in_ret ?_) | ((with_reducible refine in_other ?_ ?_); decide) | go_values | go_skip | go_guarded | go_step | go_upon | go_back)
  replace b1 := text_put (k := .string ⟨([xs[at_]] : Bs).toArray⟩) rfl n1 b1 b0
  obtain ⟨b1, b0, n1⟩ := b1
  refine bodyPost_ret (results_rt rfl _ _ w.heap.size _ rfl (run_loadVar_row _ _ _ _ _ _ _ (set4_all _ _ _ _ b0) Try.underlying47 rfl (by kernel_rfl))) rfl ?_
  exact ⟨by simp [tkC, Array.getD_eq_getD_getElem?] <;> omega, (((n1.setCell (Nat.le_refl _) _).setCell (Nat.le_refl _) _).setCell (Nat.le_refl _) _).setCell (Nat.le_refl _) _⟩

theorem word_s123 (A : Option Addr) (cap : Nat) (xs : Bs) (at_ : Nat) (hx : xs.length ≤ 9223372036854775800) (hc : xs.length ≤ cap) (ha : at_ < xs.length) (h0 : bI xs[at_] = 123) (w : World) (hS : SrcB w A xs) :
    Calls Try.prog 30 #[.slice A xs.length cap, .int .i64 at_] w fun e w' => e = .returned (.tuple #[.agg (tkC 4 at_ [xs[at_]] 0), .int .i64 ((at_ + 1 : Nat) : Int)]) ∧ Nb w w' := by
  have hS' := Lib.hid hS
  clear hS
  go_enter Try.func30, Try.ntmps30
  go_upto_region 3 with (fail)
  obtain ⟨W1, hW⟩ : ∃ W1, (w.alloc (Obj.cells #[.int .i64 0, .int .i64 0, .string ⟨#[]⟩, .int .i64 0] 47)).alloc (Obj.cells #[.int .i64 0, .int .i64 at_, .string ⟨#[]⟩, .int .i64 0] 47) = W1 := ⟨_, rfl⟩
  obtain ⟨b0, b1, n1⟩ := two_made hW
  rw [hW]
  clear hW
  obtain ⟨ad, hA, hcell⟩ := (hS'.out.nb n1).cell at_ ha
  have hlt : (at_ : Int) < (xs.length : Int) := by omega
  subst hA
  rw [h0] at hcell
  obtain ⟨⟨c0, c1, c2, c3⟩, f0, f1, f2, f3⟩ := tk4 b1
  repeat (first | (with_reducible first | refine then_exit ?_ | refine in_same ?_ | refine then_ret ?_ | refine in_ret ?_) | ((with_reducible refine in_other ?_ ?_); decide) | go_values | go_skip | go_guarded | go_step | go_upon | go_back)
  clear c0 c1 c2 c3 f0 f1 f2 f3
  obtain ⟨W2, hW⟩ : ∃ W2, W1.setCell ⟨w.heap.size + 1, 0, none⟩ (.int .i64 4) = W2 := ⟨_, rfl⟩
  replace b1 := kind_put hW n1 b1 b0
  obtain ⟨b1, b0, n1⟩ := b1
  rw [hW]
  clear hW
  have hs := str_sub (n := 1) (c := cap - at_) (lo := at_) (tx := [xs[at_]]) (hS'.out.nb n1) (by
    rw [List.drop_eq_getElem_cons ha]; rfl) (by omega)
  obtain ⟨⟨c0, c1, c2, c3⟩, f0, f1, f2, f3⟩ := tk4 b1
  obtain ⟨⟨e0, e1, e2, e3⟩, g0, g1, g2, g3⟩ := tk4 b0
  rw [hs]
  simp only [Result.andThen_ok]
  repeat (first | (with_reducible first | refine then_exit ?_ | refine in_same ?_ | refine then_ret ?_ | refine in_ret ?_) | ((with_reducible refine in_other ?_ ?_); decide) | go_values | go_skip | go_guarded | go_step | go_upon | go_back)
  replace b1 := text_put (k := .string ⟨([xs[at_]] : Bs).toArray⟩) rfl n1 b1 b0
  obtain ⟨b1, b0, n1⟩ := b1
  refine bodyPost_ret (results_rt rfl _ _ w.heap.size _ rfl (run_loadVar_row _ _ _ _ _ _ _ (set4_all _ _ _ _ b0) Try.underlying47 rfl (by kernel_rfl))) rfl ?_
  exact ⟨by simp [tkC, Array.getD_eq_getD_getElem?] <;> omega, (((n1.setCell (Nat.le_refl _) _).setCell (Nat.le_refl _) _).setCell (Nat.le_refl _) _).setCell (Nat.le_refl _) _⟩

theorem word_s125 (A : Option Addr) (cap : Nat) (xs : Bs) (at_ : Nat) (hx : xs.length ≤ 9223372036854775800) (hc : xs.length ≤ cap) (ha : at_ < xs.length) (h0 : bI xs[at_] = 125) (w : World) (hS : SrcB w A xs) :
    Calls Try.prog 30 #[.slice A xs.length cap, .int .i64 at_] w fun e w' => e = .returned (.tuple #[.agg (tkC 4 at_ [xs[at_]] 0), .int .i64 ((at_ + 1 : Nat) : Int)]) ∧ Nb w w' := by
  have hS' := Lib.hid hS
  clear hS
  go_enter Try.func30, Try.ntmps30
  go_upto_region 3 with (fail)
  obtain ⟨W1, hW⟩ : ∃ W1, (w.alloc (Obj.cells #[.int .i64 0, .int .i64 0, .string ⟨#[]⟩, .int .i64 0] 47)).alloc (Obj.cells #[.int .i64 0, .int .i64 at_, .string ⟨#[]⟩, .int .i64 0] 47) = W1 := ⟨_, rfl⟩
  obtain ⟨b0, b1, n1⟩ := two_made hW
  rw [hW]
  clear hW
  obtain ⟨ad, hA, hcell⟩ := (hS'.out.nb n1).cell at_ ha
  have hlt : (at_ : Int) < (xs.length : Int) := by omega
  subst hA
  rw [h0] at hcell
  obtain ⟨⟨c0, c1, c2, c3⟩, f0, f1, f2, f3⟩ := tk4 b1
  repeat (first | (with_reducible first | refine then_exit ?_ | refine in_same ?_ | refine then_ret ?_ | refine in_ret ?_) | ((with_reducible refine in_other ?_ ?_); decide) | go_values | go_skip | go_guarded | go_step | go_upon | go_back)
  clear c0 c1 c2 c3 f0 f1 f2 f3
  obtain ⟨W2, hW⟩ : ∃ W2, W1.setCell ⟨w.heap.size + 1, 0, none⟩ (.int .i64 4) = W2 := ⟨_, rfl⟩
  replace b1 := kind_put hW n1 b1 b0
  obtain ⟨b1, b0, n1⟩ := b1
  rw [hW]
  clear hW
  have hs := str_sub (n := 1) (c := cap - at_) (lo := at_) (tx := [xs[at_]]) (hS'.out.nb n1) (by
    rw [List.drop_eq_getElem_cons ha]; rfl) (by omega)
  obtain ⟨⟨c0, c1, c2, c3⟩, f0, f1, f2, f3⟩ := tk4 b1
  obtain ⟨⟨e0, e1, e2, e3⟩, g0, g1, g2, g3⟩ := tk4 b0
  rw [hs]
  simp only [Result.andThen_ok]
  repeat (first | (with_reducible first | refine then_exit ?_ | refine in_same ?_ | refine then_ret ?_ | refine in_ret ?_) | ((with_reducible refine in_other ?_ ?_); decide) | go_values | go_skip | go_guarded | go_step | go_upon | go_back)
  replace b1 := text_put (k := .string ⟨([xs[at_]] : Bs).toArray⟩) rfl n1 b1 b0
  obtain ⟨b1, b0, n1⟩ := b1
  refine bodyPost_ret (results_rt rfl _ _ w.heap.size _ rfl (run_loadVar_row _ _ _ _ _ _ _ (set4_all _ _ _ _ b0) Try.underlying47 rfl (by kernel_rfl))) rfl ?_
  exact ⟨by simp [tkC, Array.getD_eq_getD_getElem?] <;> omega, (((n1.setCell (Nat.le_refl _) _).setCell (Nat.le_refl _) _).setCell (Nat.le_refl _) _).setCell (Nat.le_refl _) _⟩

theorem word_s44 (A : Option Addr) (cap : Nat) (xs : Bs) (at_ : Nat) (hx : xs.length ≤ 9223372036854775800) (hc : xs.length ≤ cap) (ha : at_ < xs.length) (h0 : bI xs[at_] = 44) (w : World) (hS : SrcB w A xs) :
    Calls Try.prog 30 #[.slice A xs.length cap, .int .i64 at_] w fun e w' => e = .returned (.tuple #[.agg (tkC 4 at_ [xs[at_]] 0), .int .i64 ((at_ + 1 : Nat) : Int)]) ∧ Nb w w' := by
  have hS' := Lib.hid hS
  clear hS
  go_enter Try.func30, Try.ntmps30
  go_upto_region 3 with (fail)
  obtain ⟨W1, hW⟩ : ∃ W1, (w.alloc (Obj.cells #[.int .i64 0, .int .i64 0, .string ⟨#[]⟩, .int .i64 0] 47)).alloc (Obj.cells #[.int .i64 0, .int .i64 at_, .string ⟨#[]⟩, .int .i64 0] 47) = W1 := ⟨_, rfl⟩
  obtain ⟨b0, b1, n1⟩ := two_made hW
  rw [hW]
  clear hW
  obtain ⟨ad, hA, hcell⟩ := (hS'.out.nb n1).cell at_ ha
  have hlt : (at_ : Int) < (xs.length : Int) := by omega
  subst hA
  rw [h0] at hcell
  obtain ⟨⟨c0, c1, c2, c3⟩, f0, f1, f2, f3⟩ := tk4 b1
  repeat (first | (with_reducible first | refine then_exit ?_ | refine in_same ?_ | refine then_ret ?_ | refine in_ret ?_) | ((with_reducible refine in_other ?_ ?_); decide) | go_values | go_skip | go_guarded | go_step | go_upon | go_back)
  clear c0 c1 c2 c3 f0 f1 f2 f3
  obtain ⟨W2, hW⟩ : ∃ W2, W1.setCell ⟨w.heap.size + 1, 0, none⟩ (.int .i64 4) = W2 := ⟨_, rfl⟩
  replace b1 := kind_put hW n1 b1 b0
  obtain ⟨b1, b0, n1⟩ := b1
  rw [hW]
  clear hW
  have hs := str_sub (n := 1) (c := cap - at_) (lo := at_) (tx := [xs[at_]]) (hS'.out.nb n1) (by
    rw [List.drop_eq_getElem_cons ha]; rfl) (by omega)
  obtain ⟨⟨c0, c1, c2, c3⟩, f0, f1, f2, f3⟩ := tk4 b1
  obtain ⟨⟨e0, e1, e2, e3⟩, g0, g1, g2, g3⟩ := tk4 b0
  rw [hs]
  simp only [Result.andThen_ok]
  repeat (first | (with_reducible first | refine then_exit ?_ | refine in_same ?_ | refine then_ret ?_ | refine in_ret ?_) | ((with_reducible refine in_other ?_ ?_); decide) | go_values | go_skip | go_guarded | go_step | go_upon | go_back)
  replace b1 := text_put (k := .string ⟨([xs[at_]] : Bs).toArray⟩) rfl n1 b1 b0
  obtain ⟨b1, b0, n1⟩ := b1
  refine bodyPost_ret (results_rt rfl _ _ w.heap.size _ rfl (run_loadVar_row _ _ _ _ _ _ _ (set4_all _ _ _ _ b0) Try.underlying47 rfl (by kernel_rfl))) rfl ?_
  exact ⟨by simp [tkC, Array.getD_eq_getD_getElem?] <;> omega, (((n1.setCell (Nat.le_refl _) _).setCell (Nat.le_refl _) _).setCell (Nat.le_refl _) _).setCell (Nat.le_refl _) _⟩

theorem word_s59 (A : Option Addr) (cap : Nat) (xs : Bs) (at_ : Nat) (hx : xs.length ≤ 9223372036854775800) (hc : xs.length ≤ cap) (ha : at_ < xs.length) (h0 : bI xs[at_] = 59) (w : World) (hS : SrcB w A xs) :
    Calls Try.prog 30 #[.slice A xs.length cap, .int .i64 at_] w fun e w' => e = .returned (.tuple #[.agg (tkC 4 at_ [xs[at_]] 0), .int .i64 ((at_ + 1 : Nat) : Int)]) ∧ Nb w w' := by
  have hS' := Lib.hid hS
  clear hS
  go_enter Try.func30, Try.ntmps30
  go_upto_region 3 with (fail)
  obtain ⟨W1, hW⟩ : ∃ W1, (w.alloc (Obj.cells #[.int .i64 0, .int .i64 0, .string ⟨#[]⟩, .int .i64 0] 47)).alloc (Obj.cells #[.int .i64 0, .int .i64 at_, .string ⟨#[]⟩, .int .i64 0] 47) = W1 := ⟨_, rfl⟩
  obtain ⟨b0, b1, n1⟩ := two_made hW
  rw [hW]
  clear hW
  obtain ⟨ad, hA, hcell⟩ := (hS'.out.nb n1).cell at_ ha
  have hlt : (at_ : Int) < (xs.length : Int) := by omega
  subst hA
  rw [h0] at hcell
  obtain ⟨⟨c0, c1, c2, c3⟩, f0, f1, f2, f3⟩ := tk4 b1
  repeat (first | (with_reducible first | refine then_exit ?_ | refine in_same ?_ | refine then_ret ?_ | refine in_ret ?_) | ((with_reducible refine in_other ?_ ?_); decide) | go_values | go_skip | go_guarded | go_step | go_upon | go_back)
  clear c0 c1 c2 c3 f0 f1 f2 f3
  obtain ⟨W2, hW⟩ : ∃ W2, W1.setCell ⟨w.heap.size + 1, 0, none⟩ (.int .i64 4) = W2 := ⟨_, rfl⟩
  replace b1 := kind_put hW n1 b1 b0
  obtain ⟨b1, b0, n1⟩ := b1
  rw [hW]
  clear hW
  have hs := str_sub (n := 1) (c := cap - at_) (lo := at_) (tx := [xs[at_]]) (hS'.out.nb n1) (by
    rw [List.drop_eq_getElem_cons ha]; rfl) (by omega)
  obtain ⟨⟨c0, c1, c2, c3⟩, f0, f1, f2, f3⟩ := tk4 b1
  obtain ⟨⟨e0, e1, e2, e3⟩, g0, g1, g2, g3⟩ := tk4 b0
  rw [hs]
  simp only [Result.andThen_ok]
  repeat (first | (with_reducible first | refine then_exit ?_ | refine in_same ?_ | refine then_ret ?_ | refine in_ret ?_) | ((with_reducible refine in_other ?_ ?_); decide) | go_values | go_skip | go_guarded | go_step | go_upon | go_back)
  replace b1 := text_put (k := .string ⟨([xs[at_]] : Bs).toArray⟩) rfl n1 b1 b0
  obtain ⟨b1, b0, n1⟩ := b1
  refine bodyPost_ret (results_rt rfl _ _ w.heap.size _ rfl (run_loadVar_row _ _ _ _ _ _ _ (set4_all _ _ _ _ b0) Try.underlying47 rfl (by kernel_rfl))) rfl ?_
  exact ⟨by simp [tkC, Array.getD_eq_getD_getElem?] <;> omega, (((n1.setCell (Nat.le_refl _) _).setCell (Nat.le_refl _) _).setCell (Nat.le_refl _) _).setCell (Nat.le_refl _) _⟩

theorem word_s43 (A : Option Addr) (cap : Nat) (xs : Bs) (at_ : Nat) (hx : xs.length ≤ 9223372036854775800) (hc : xs.length ≤ cap) (ha : at_ < xs.length) (h0 : bI xs[at_] = 43) (w : World) (hS : SrcB w A xs) :
    Calls Try.prog 30 #[.slice A xs.length cap, .int .i64 at_] w fun e w' => e = .returned (.tuple #[.agg (tkC 4 at_ [xs[at_]] 0), .int .i64 ((at_ + 1 : Nat) : Int)]) ∧ Nb w w' := by
  have hS' := Lib.hid hS
  clear hS
  go_enter Try.func30, Try.ntmps30
  go_upto_region 3 with (fail)
  obtain ⟨W1, hW⟩ : ∃ W1, (w.alloc (Obj.cells #[.int .i64 0, .int .i64 0, .string ⟨#[]⟩, .int .i64 0] 47)).alloc (Obj.cells #[.int .i64 0, .int .i64 at_, .string ⟨#[]⟩, .int .i64 0] 47) = W1 := ⟨_, rfl⟩
  obtain ⟨b0, b1, n1⟩ := two_made hW
  rw [hW]
  clear hW
  obtain ⟨ad, hA, hcell⟩ := (hS'.out.nb n1).cell at_ ha
  have hlt : (at_ : Int) < (xs.length : Int) := by omega
  subst hA
  rw [h0] at hcell
  obtain ⟨⟨c0, c1, c2, c3⟩, f0, f1, f2, f3⟩ := tk4 b1
  repeat (first | (with_reducible first | refine then_exit ?_ | refine in_same ?_ | refine then_ret ?_ | refine in_ret ?_) | ((with_reducible refine in_other ?_ ?_); decide) | go_values | go_skip | go_guarded | go_step | go_upon | go_back)
  clear c0 c1 c2 c3 f0 f1 f2 f3
  obtain ⟨W2, hW⟩ : ∃ W2, W1.setCell ⟨w.heap.size + 1, 0, none⟩ (.int .i64 4) = W2 := ⟨_, rfl⟩
  replace b1 := kind_put hW n1 b1 b0
  obtain ⟨b1, b0, n1⟩ := b1
  rw [hW]
  clear hW
  have hs := str_sub (n := 1) (c := cap - at_) (lo := at_) (tx := [xs[at_]]) (hS'.out.nb n1) (by
    rw [List.drop_eq_getElem_cons ha]; rfl) (by omega)
  obtain ⟨⟨c0, c1, c2, c3⟩, f0, f1, f2, f3⟩ := tk4 b1
  obtain ⟨⟨e0, e1, e2, e3⟩, g0, g1, g2, g3⟩ := tk4 b0
  rw [hs]
  simp only [Result.andThen_ok]
  repeat (first | (with_reducible first | refine then_exit ?_ | refine in_same ?_ | refine then_ret ?_ | refine in_ret ?_) | ((with_reducible refine in_other ?_ ?_); decide) | go_values | go_skip | go_guarded | go_step | go_upon | go_back)
  replace b1 := text_put (k := .string ⟨([xs[at_]] : Bs).toArray⟩) rfl n1 b1 b0
  obtain ⟨b1, b0, n1⟩ := b1
  refine bodyPost_ret (results_rt rfl _ _ w.heap.size _ rfl (run_loadVar_row _ _ _ _ _ _ _ (set4_all _ _ _ _ b0) Try.underlying47 rfl (by kernel_rfl))) rfl ?_
  exact ⟨by simp [tkC, Array.getD_eq_getD_getElem?] <;> omega, (((n1.setCell (Nat.le_refl _) _).setCell (Nat.le_refl _) _).setCell (Nat.le_refl _) _).setCell (Nat.le_refl _) _⟩

theorem word_s45 (A : Option Addr) (cap : Nat) (xs : Bs) (at_ : Nat) (hx : xs.length ≤ 9223372036854775800) (hc : xs.length ≤ cap) (ha : at_ < xs.length) (h0 : bI xs[at_] = 45) (w : World) (hS : SrcB w A xs) :
    Calls Try.prog 30 #[.slice A xs.length cap, .int .i64 at_] w fun e w' => e = .returned (.tuple #[.agg (tkC 4 at_ [xs[at_]] 0), .int .i64 ((at_ + 1 : Nat) : Int)]) ∧ Nb w w' := by
  have hS' := Lib.hid hS
  clear hS
  go_enter Try.func30, Try.ntmps30
  go_upto_region 3 with (fail)
  obtain ⟨W1, hW⟩ : ∃ W1, (w.alloc (Obj.cells #[.int .i64 0, .int .i64 0, .string ⟨#[]⟩, .int .i64 0] 47)).alloc (Obj.cells #[.int .i64 0, .int .i64 at_, .string ⟨#[]⟩, .int .i64 0] 47) = W1 := ⟨_, rfl⟩
  obtain ⟨b0, b1, n1⟩ := two_made hW
  rw [hW]
  clear hW
  obtain ⟨ad, hA, hcell⟩ := (hS'.out.nb n1).cell at_ ha
  have hlt : (at_ : Int) < (xs.length : Int) := by omega
  subst hA
  rw [h0] at hcell
  obtain ⟨⟨c0, c1, c2, c3⟩, f0, f1, f2, f3⟩ := tk4 b1
  repeat (first | (with_reducible first | refine then_exit ?_ | refine in_same ?_ | refine then_ret ?_ | refine in_ret ?_) | ((with_reducible refine in_other ?_ ?_); decide) | go_values | go_skip | go_guarded | go_step | go_upon | go_back)
  clear c0 c1 c2 c3 f0 f1 f2 f3
  obtain ⟨W2, hW⟩ : ∃ W2, W1.setCell ⟨w.heap.size + 1, 0, none⟩ (.int .i64 4) = W2 := ⟨_, rfl⟩
  replace b1 := kind_put hW n1 b1 b0
  obtain ⟨b1, b0, n1⟩ := b1
  rw [hW]
  clear hW
  have hs := str_sub (n := 1) (c := cap - at_) (lo := at_) (tx := [xs[at_]]) (hS'.out.nb n1) (by
    rw [List.drop_eq_getElem_cons ha]; rfl) (by omega)
  obtain ⟨⟨c0, c1, c2, c3⟩, f0, f1, f2, f3⟩ := tk4 b1
  obtain ⟨⟨e0, e1, e2, e3⟩, g0, g1, g2, g3⟩ := tk4 b0
  rw [hs]
  simp only [Result.andThen_ok]
  repeat (first | (with_reducible first | refine then_exit ?_ | refine in_same ?_ | refine then_ret ?_ | refine in_ret ?_) | ((with_reducible refine in_other ?_ ?_); decide) | go_values | go_skip | go_guarded | go_step | go_upon | go_back)
  replace b1 := text_put (k := .string ⟨([xs[at_]] : Bs).toArray⟩) rfl n1 b1 b0
  obtain ⟨b1, b0, n1⟩ := b1
  refine bodyPost_ret (results_rt rfl _ _ w.heap.size _ rfl (run_loadVar_row _ _ _ _ _ _ _ (set4_all _ _ _ _ b0) Try.underlying47 rfl (by kernel_rfl))) rfl ?_
  exact ⟨by simp [tkC, Array.getD_eq_getD_getElem?] <;> omega, (((n1.setCell (Nat.le_refl _) _).setCell (Nat.le_refl _) _).setCell (Nat.le_refl _) _).setCell (Nat.le_refl _) _⟩

theorem word_s42 (A : Option Addr) (cap : Nat) (xs : Bs) (at_ : Nat) (hx : xs.length ≤ 9223372036854775800) (hc : xs.length ≤ cap) (ha : at_ < xs.length) (h0 : bI xs[at_] = 42) (w : World) (hS : SrcB w A xs) :
    Calls Try.prog 30 #[.slice A xs.length cap, .int .i64 at_] w fun e w' => e = .returned (.tuple #[.agg (tkC 4 at_ [xs[at_]] 0), .int .i64 ((at_ + 1 : Nat) : Int)]) ∧ Nb w w' := by
  have hS' := Lib.hid hS
  clear hS
  go_enter Try.func30, Try.ntmps30
  go_upto_region 3 with (fail)
  obtain ⟨W1, hW⟩ : ∃ W1, (w.alloc (Obj.cells #[.int .i64 0, .int .i64 0, .string ⟨#[]⟩, .int .i64 0] 47)).alloc (Obj.cells #[.int .i64 0, .int .i64 at_, .string ⟨#[]⟩, .int .i64 0] 47) = W1 := ⟨_, rfl⟩
  obtain ⟨b0, b1, n1⟩ := two_made hW
  rw [hW]
  clear hW
  obtain ⟨ad, hA, hcell⟩ := (hS'.out.nb n1).cell at_ ha
  have hlt : (at_ : Int) < (xs.length : Int) := by omega
  subst hA
  rw [h0] at hcell
  obtain ⟨⟨c0, c1, c2, c3⟩, f0, f1, f2, f3⟩ := tk4 b1
  repeat (first | (with_reducible first | refine then_exit ?_ | refine in_same ?_ | refine then_ret ?_ | refine in_ret ?_) | ((with_reducible refine in_other ?_ ?_); decide) | go_values | go_skip | go_guarded | go_step | go_upon | go_back)
  clear c0 c1 c2 c3 f0 f1 f2 f3
  obtain ⟨W2, hW⟩ : ∃ W2, W1.setCell ⟨w.heap.size + 1, 0, none⟩ (.int .i64 4) = W2 := ⟨_, rfl⟩
  replace b1 := kind_put hW n1 b1 b0
  obtain ⟨b1, b0, n1⟩ := b1
  rw [hW]
  clear hW
  have hs := str_sub (n := 1) (c := cap - at_) (lo := at_) (tx := [xs[at_]]) (hS'.out.nb n1) (by
    rw [List.drop_eq_getElem_cons ha]; rfl) (by omega)
  obtain ⟨⟨c0, c1, c2, c3⟩, f0, f1, f2, f3⟩ := tk4 b1
  obtain ⟨⟨e0, e1, e2, e3⟩, g0, g1, g2, g3⟩ := tk4 b0
  rw [hs]
  simp only [Result.andThen_ok]
  repeat (first | (with_reducible first | refine then_exit ?_ | refine in_same ?_ | refine then_ret ?_ | refine in_ret ?_) | ((with_reducible refine in_other ?_ ?_); decide) | go_values | go_skip | go_guarded | go_step | go_upon | go_back)
  replace b1 := text_put (k := .string ⟨([xs[at_]] : Bs).toArray⟩) rfl n1 b1 b0
  obtain ⟨b1, b0, n1⟩ := b1
  refine bodyPost_ret (results_rt rfl _ _ w.heap.size _ rfl (run_loadVar_row _ _ _ _ _ _ _ (set4_all _ _ _ _ b0) Try.underlying47 rfl (by kernel_rfl))) rfl ?_
  exact ⟨by simp [tkC, Array.getD_eq_getD_getElem?] <;> omega, (((n1.setCell (Nat.le_refl _) _).setCell (Nat.le_refl _) _).setCell (Nat.le_refl _) _).setCell (Nat.le_refl _) _⟩

theorem word_s60 (A : Option Addr) (cap : Nat) (xs : Bs) (at_ : Nat) (hx : xs.length ≤ 9223372036854775800) (hc : xs.length ≤ cap) (ha : at_ < xs.length) (h0 : bI xs[at_] = 60) (w : World) (hS : SrcB w A xs) :
    Calls Try.prog 30 #[.slice A xs.length cap, .int .i64 at_] w fun e w' => e = .returned (.tuple #[.agg (tkC 4 at_ [xs[at_]] 0), .int .i64 ((at_ + 1 : Nat) : Int)]) ∧ Nb w w' := by
  have hS' := Lib.hid hS
  clear hS
  go_enter Try.func30, Try.ntmps30
  go_upto_region 3 with (fail)
  obtain ⟨W1, hW⟩ : ∃ W1, (w.alloc (Obj.cells #[.int .i64 0, .int .i64 0, .string ⟨#[]⟩, .int .i64 0] 47)).alloc (Obj.cells #[.int .i64 0, .int .i64 at_, .string ⟨#[]⟩, .int .i64 0] 47) = W1 := ⟨_, rfl⟩
  obtain ⟨b0, b1, n1⟩ := two_made hW
  rw [hW]
  clear hW
  obtain ⟨ad, hA, hcell⟩ := (hS'.out.nb n1).cell at_ ha
  have hlt : (at_ : Int) < (xs.length : Int) := by omega
  subst hA
  rw [h0] at hcell
  obtain ⟨⟨c0, c1, c2, c3⟩, f0, f1, f2, f3⟩ := tk4 b1
  repeat (first | (with_reducible first | refine then_exit ?_ | refine in_same ?_ | refine then_ret ?_ | refine in_ret ?_) | ((with_reducible refine in_other ?_ ?_); decide) | go_values | go_skip | go_guarded | go_step | go_upon | go_back)
  clear c0 c1 c2 c3 f0 f1 f2 f3
  obtain ⟨W2, hW⟩ : ∃ W2, W1.setCell ⟨w.heap.size + 1, 0, none⟩ (.int .i64 4) = W2 := ⟨_, rfl⟩
  replace b1 := kind_put hW n1 b1 b0
  obtain ⟨b1, b0, n1⟩ := b1
  rw [hW]
  clear hW
  have hs := str_sub (n := 1) (c := cap - at_) (lo := at_) (tx := [xs[at_]]) (hS'.out.nb n1) (by
    rw [List.drop_eq_getElem_cons ha]; rfl) (by omega)
  obtain ⟨⟨c0, c1, c2, c3⟩, f0, f1, f2, f3⟩ := tk4 b1
  obtain ⟨⟨e0, e1, e2, e3⟩, g0, g1, g2, g3⟩ := tk4 b0
  rw [hs]
  simp only [Result.andThen_ok]
  repeat (first | (with_reducible first | refine then_exit ?_ | refine in_same ?_ | refine then_ret ?_ | refine in_ret ?_) | ((with_reducible refine in_other ?_ ?_); decide) | go_values | go_skip | go_guarded | go_step | go_upon | go_back)
  replace b1 := text_put (k := .string ⟨([xs[at_]] : Bs).toArray⟩) rfl n1 b1 b0
  obtain ⟨b1, b0, n1⟩ := b1
  refine bodyPost_ret (results_rt rfl _ _ w.heap.size _ rfl (run_loadVar_row _ _ _ _ _ _ _ (set4_all _ _ _ _ b0) Try.underlying47 rfl (by kernel_rfl))) rfl ?_
  exact ⟨by simp [tkC, Array.getD_eq_getD_getElem?] <;> omega, (((n1.setCell (Nat.le_refl _) _).setCell (Nat.le_refl _) _).setCell (Nat.le_refl _) _).setCell (Nat.le_refl _) _⟩

end Go.Proofs.Yticifolljhplmaa
