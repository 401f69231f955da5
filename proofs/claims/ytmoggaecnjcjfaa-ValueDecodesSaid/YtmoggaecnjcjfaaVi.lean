/-
  Proved here: what lays a value's words. Conditions: the memory holds the value; there are fewer than a million words.
-/
import Derived.Test.YtmoggaecnjcjfaaVh
import Derived.Test.YtmoggaecnjcjfaaVg
import Derived.Laws.EntriesVeiled
namespace Go.Proofs.Ytmoggaecnjcjfaa
open Go.RowKit Go.ChangeMaps
set_option linter.unusedVariables false
set_option linter.unusedSimpArgs false
set_option maxRecDepth 100000
set_option maxHeartbeats 4000000
/-- The boxes of what lays words, and the words that are laid. -/
structure LayAt (W0 : World) (lb fb bb : Nat) (bs : Int) (w : World) (xs : List Int) : Prop where
  nb : Nb W0 w
  bbox : W0.heap[bb]? = some (.cells #[.int .u64 bs] 32 (0, 0))
  fbox : w.heap[fb]? = some (.cells #[.func (.func 31) #[] #[.pointer (some ⟨lb, 0, none⟩), .pointer (some ⟨fb, 0, none⟩), .pointer (some ⟨bb, 0, none⟩)]] 53 (0, 0))
  lbox : ∃ sv, w.heap[lb]? = some (.cells #[sv] 31 (0, 0)) ∧ w.ownsRow W0.heap.size 32 1 sv xs.length (uL xs)
  hl : W0.heap.size ≤ lb
/-- What is kept: all but the row and its box. -/
structure Kl (lb : Nat) (w w' : World) : Prop where
  size : w.heap.size ≤ w'.heap.size
  keep : ∀ i cs t fr, w.heap[i]? = some (.cells cs t fr) → t ≠ 32 → i ≠ lb → w'.heap[i]? = some (.cells cs t fr)
theorem Kl.refl (lb : Nat) (w : World) : Kl lb w w := ⟨Nat.le_refl _, fun _ _ _ _ h _ _ => h⟩
theorem Kl.trans {lb : Nat} {a b c : World} (h : Kl lb a b) (k : Kl lb b c) : Kl lb a c := ⟨Nat.le_trans h.size k.size, fun i cs t fr hi ht hl => k.keep i cs t fr (h.keep i cs t fr hi ht hl) ht hl⟩
theorem Kl.of_nb {lb : Nat} {a b : World} (h : Nb a b) : Kl lb a b := ⟨h.size, fun i cs t fr hi _ _ => h.block hi⟩
theorem Kl.set {lb : Nat} {a b : World} (h : Kl lb a b) (j : Nat) (v : Value) : Kl lb a (b.setCell ⟨lb, j, none⟩ v) :=
  ⟨by simpa using h.size, fun i cs t fr hi ht hl => (heap_setCell_other _ _ _ _ (by simpa using hl)).trans (h.keep i cs t fr hi ht hl)⟩
theorem wordOf_any (k n : Int) (A : Option Addr) (L cap : Nat) (w : World) : Calls Try.prog 32 #[.agg #[.int .i64 k, .int .i64 n, .slice A L cap]] w fun r w' => r = .returned (.int .u64 (wdOf k n)) ∧ Nb w w' := by
  by_cases h3 : k = 3
  · subst h3
    go_enter Try.func32, Try.ntmps32
    go_wp2
    go_ret
    exact ⟨rfl, by repeat (first | exact Nb.refl _ | apply Nb.alloc)⟩
  · by_cases h2 : k = 2
    · subst h2
      go_enter Try.func32, Try.ntmps32
      go_wp2
      go_ret
      exact ⟨rfl, by repeat (first | exact Nb.refl _ | apply Nb.alloc)⟩
    · have hw : wdOf k n = lowW n := by unfold wdOf; rw [if_neg h3, if_neg h2]
      rw [hw]
      clear hw
      go_enter Try.func32, Try.ntmps32
      go_wp2
      go_ret
      exact ⟨rfl, by repeat (first | exact Nb.refl _ | apply Nb.alloc)⟩
theorem infoU : (Try.prog.info? 32).map (fun i => (i.zero, i.size, i.bytes)) = some (some (.int .u64 0), 1, 8) := by kernel_rfl
theorem partsU : ∃ i, Try.prog.info? 32 = some i ∧ i.zero = some (.int .u64 0) ∧ i.size = 1 ∧ i.bytes = 8 := by
  have h := infoU
  cases hq : Try.prog.info? 32 with
  | none => rw [hq] at h; cases h
  | some i =>
    rw [hq] at h
    simp only [Option.map_some, Option.some.injEq, Prod.mk.injEq] at h
    exact ⟨i, rfl, h.1, h.2.1, h.2.2⟩
theorem own_nbU {w w' : World} {b n : Nat} {v : Value} {xs : List Value} (h : w.ownsRow b 32 1 v n xs) (hn : Nb w w') : w'.ownsRow b 32 1 v n xs :=
  h.kept (row := none) ⟨hn.os, hn.tape, hn.output, hn.size, fun k hk _ => Below.block hn k hk⟩ (by cases v.ownBlock <;> simp)
theorem LayAt.go {W0 w w' : World} {lb fb bb : Nat} {bs : Int} {xs : List Int} (h : LayAt W0 lb fb bb bs w xs) (k : Nb w w') : LayAt W0 lb fb bb bs w' xs := by
  obtain ⟨sv, h1, h2⟩ := h.lbox
  exact ⟨h.nb.trans k, h.bbox, k.block h.fbox, ⟨sv, k.block h1, own_nbU h2 k⟩, h.hl⟩
theorem own_some {w : World} {base n : Nat} {v : Value} {xs : List Value} (h : w.ownsRow base 32 1 v n xs) (hn : 0 < n) : ∃ g c, v = .slice (some ⟨g, 0, none⟩) n c ∧ n ≤ c := by
  rcases h.2 with ⟨_, rfl⟩ | ⟨g, cap, cur, rfl, _, _, hc, _⟩
  · omega
  · exact ⟨g, cap, rfl, hc⟩
theorem own_slice {w : World} {base n : Nat} {v : Value} {xs : List Value} (h : w.ownsRow base 32 1 v n xs) : ∃ B c, v = .slice B n c := by
  rcases h.2 with ⟨rfl, rfl⟩ | ⟨g, cap, cur, rfl, _, _, hc, _⟩
  · exact ⟨none, 0, rfl⟩
  · exact ⟨_, cap, rfl⟩
theorem row_ne {w : World} {base n lb : Nat} {v : Value} {xs : List Value} {cs : Array Value} {t : TypeId} {fr : Nat × Nat} (h : w.ownsRow base 32 1 v n xs) (hb : w.heap[lb]? = some (.cells cs t fr)) (ht : t ≠ 32) : some lb ≠ v.ownBlock := by
  intro e
  rcases h.2 with ⟨rfl, rfl⟩ | ⟨g, cap, cur, rfl, _, hg, _⟩
  · simp [Value.ownBlock] at e
  · simp only [Value.ownBlock, Option.some.injEq] at e
    subst e
    rw [hg] at hb
    simp only [Option.some.injEq, Obj.cells.injEq] at hb
    exact ht hb.2.1.symm
theorem Kl.grown {lb base n : Nat} {w w' : World} {v : Value} {xs : List Value} (h : w.ownsRow base 32 1 v n xs) (hg : w.grownBy w' v.ownBlock) : Kl lb w w' :=
  ⟨hg.size, fun i cs t fr hi ht _ => (World.grownBy.block hg i (lt_blk hi) (row_ne h hi ht)).trans hi⟩
theorem LayAt.turn {W0 w w' : World} {lb fb bb : Nat} {bs : Int} {xs xs' : List Int} {sv v' : Value} (h : LayAt W0 lb fb bb bs w xs) (bL : w.heap[lb]? = some (.cells #[sv] 31 (0, 0))) (hown : w.ownsRow W0.heap.size 32 1 sv xs.length (uL xs))
    (hg : w.grownBy w' sv.ownBlock) (ho : w'.ownsRow W0.heap.size 32 1 v' xs'.length (uL xs')) : LayAt W0 lb fb bb bs (w'.setCell ⟨lb, 0, none⟩ v') xs' ∧ Kl lb w (w'.setCell ⟨lb, 0, none⟩ v') := by
  have b1 : w'.heap[lb]? = some (.cells #[sv] 31 (0, 0)) := (World.grownBy.block hg lb (lt_blk bL) (row_ne hown bL (by decide))).trans bL
  have b2 := (World.grownBy.block hg fb (lt_blk h.fbox) (row_ne hown h.fbox (by decide))).trans h.fbox
  have hfl : fb ≠ lb := fun e => by subst e; have := h.fbox; rw [bL] at this; cases this
  have hne := row_ne ho b1 (by decide)
  have hN : Nb W0 w' := Below.grown h.nb hg (by have := h.nb.size; omega) (fun k hk => (hown.lt k hk).1)
  refine ⟨⟨hN.setCell (p := ⟨lb, 0, none⟩) h.hl _, h.bbox, by rw [heap_setCell_other _ _ _ _ (by simpa using hfl)]; exact b2, ⟨v', heap_setCell_same _ _ _ _ _ _ b1, ho.kept (row := some lb) ⟨rfl, rfl, rfl, by simp, fun k _ hk => heap_setCell_other _ _ _ _ (fun e => hk (by rw [e]))⟩ (.inr fun e => hne e.symm)⟩, h.hl⟩, (Kl.grown hown hg).set _ _⟩
theorem LayAt.put {W0 w : World} {lb fb bb : Nat} {bs : Int} {xs : List Int} {g c : Nat} (h : LayAt W0 lb fb bb bs w xs) (bL : w.heap[lb]? = some (.cells #[.slice (some ⟨g, 0, none⟩) xs.length c] 31 (0, 0))) (hown : w.ownsRow W0.heap.size 32 1 (.slice (some ⟨g, 0, none⟩) xs.length c) xs.length (uL xs))
    (j : Nat) (x : Int) : LayAt W0 lb fb bb bs (w.setCell ⟨g, j, none⟩ (.int .u64 x)) (xs.set j x) ∧ Kl lb w (w.setCell ⟨g, j, none⟩ (.int .u64 x)) := by
  obtain ⟨h1, hg⟩ := hown.stored j (.int .u64 x)
  have hgl : lb ≠ g := fun e => row_ne hown bL (by decide) (by rw [e]; rfl)
  have hgf : fb ≠ g := fun e => row_ne hown h.fbox (by decide) (by rw [e]; rfl)
  have hgs := (hown.lt g rfl).1
  refine ⟨⟨h.nb.setCell (p := ⟨g, j, none⟩) hgs _, h.bbox, by rw [heap_setCell_other _ _ _ _ (by simpa using hgf)]; exact h.fbox, ⟨_, by rw [heap_setCell_other _ _ _ _ (by simpa using hgl)]; exact bL, by rw [List.length_set, show uL (xs.set j x) = (uL xs).set j (.int .u64 x) from List.map_set ..]; exact h1⟩, h.hl⟩, Kl.grown hown hg⟩
theorem newsU (w : World) (x : Int) : ∀ j u, ([.int .u64 x] : List Value)[j]? = some u → (w.alloc (.cells #[.int .u64 x] 32)).cell? ((⟨w.heap.size, 0, none⟩ : Addr).add j) = some u := fun j u h =>
  World.news_of_block (cs := #[.int .u64 x]) (t := 32) (fr := (0, 0)) (heap_alloc_new w _) j u (by simpa using h)
theorem lay_any (W0 : World) (lb fb bb : Nat) (bs : Int) : ∀ (v : Vl), v.Has W0 → ∀ (xs : List Int), xs.length + v.wd ≤ 1000000 → ∀ w, LayAt W0 lb fb bb bs w xs →
    Calls Try.prog 31 #[.agg v.cells.toArray, .pointer (some ⟨lb, 0, none⟩), .pointer (some ⟨fb, 0, none⟩), .pointer (some ⟨bb, 0, none⟩)] w fun r w' => r = .returned (.int .u64 (v.enc bs xs).1) ∧ LayAt W0 lb fb bb bs w' (v.enc bs xs).2 ∧ Kl lb w w' := by
  obtain ⟨i0, hi, hz0, hz1, hz2⟩ := partsU
  intro v
  induction v using Vl.ind with
  | h v ih =>
    intro hv xs hxs w hw
    obtain ⟨A, cap, hav, hcap, hlen, hA⟩ := hv.vls.head
    have hX := Lib.hid (show VlsHas W0 (.slice A v.args.length cap) v.args by rw [← hav]; exact hv.vls)
    have hcs : v.cells.toArray = #[.int .i64 v.kind, .int .i64 v.n, .slice A v.args.length cap] := by rw [← hav]; rfl
    rw [hcs]
    clear hcs
    obtain ⟨L, hL⟩ : ∃ L, v.args.length = L := ⟨_, rfl⟩
    have hLh := Lib.hid hL
    rw [hL] at hcap hlen hX hav ⊢
    clear hL hav
    by_cases h4 : v.kind = 4
    · have henc := Vl.enc_tup h4 bs xs
      have hwd := Vl.wd_tup h4
      obtain ⟨E, hE⟩ : ∃ E, v.enc bs xs = E := ⟨_, rfl⟩
      rw [hE]
      rw [hE, hLh.out] at henc
      rw [hLh.out] at hwd
      rw [h4]
      replace henc := Lib.hid henc
      clear hE
      replace h4 := Lib.hid h4
      go_enter Try.func31, Try.ntmps31
      go_upto_region 3 with (fail)
      obtain ⟨W1, hW1⟩ : ∃ W1, w.alloc (Obj.cells #[.int .i64 4, .int .i64 v.n, .slice A L cap] 24) = W1 := ⟨_, rfl⟩
      have n1 : Nb w W1 := by rw [← hW1]; exact (Nb.refl w).alloc _
      have bV : W1.heap[w.heap.size]? = some (.cells #[.int .i64 4, .int .i64 v.n, .slice A L cap] 24 (0, 0)) := by rw [← hW1]; exact new_blk _ _ rfl
      rw [hW1]
      clear hW1
      obtain ⟨V, hV⟩ : ∃ V, w.heap.size = V := ⟨_, rfl⟩
      have hVl : V ≠ lb := by obtain ⟨sv, h1, -⟩ := hw.lbox; have := lt_blk h1; omega
      rw [hV] at bV ⊢
      have k1 : Kl lb w W1 := Kl.of_nb n1
      have h1 := hw.go n1
      clear hV hw n1
      obtain ⟨sv, bL, hown⟩ := h1.lbox
      obtain ⟨B, c, rfl⟩ := own_slice hown
      obtain ⟨n, hn⟩ : ∃ n, xs.length = n := ⟨_, rfl⟩
      rw [hn] at bL hown hxs henc
      replace hn := Lib.hid hn
      have l0 := cell_of_row _ _ 0 _ _ _ bL
      have lf := frozen_blk bL 0
      have v2 := cell_of_row _ _ 2 _ _ _ bV
      have hn3 : n ≤ 1000000 := by omega
      have hL3 : L ≤ 1000000 := by omega
      go_upto_region 4 with (fail)
      go_upto_region 5 with (at_builtin; refine wpList_append_own _ rfl (.tmp 17) (.tmp 22) 31 rfl W0.heap.size 32 i0 (.int .u64 0) 1 8 Try.underlying31 hi hz0 hz1 hz2 rfl (by decide) (.slice B n c) n (uL xs) rfl (World.ownsRow.alloc hown (Obj.cells #[.int .u64 (L : Int)] 32)) ⟨W1.heap.size, 0, none⟩ 1 1 [.int .u64 (L : Int)] rfl rfl ?c1 ?c2 ?c3 ?c4 ?c5 ?_)
      case c1 => exact newsU W1 (L : Int)
      case c2 => intro u hu; rw [List.mem_singleton.1 hu]; rfl
      case c3 => unfold maxLen; omega
      case c4 => omega
      case c5 => have := h1.nb.size; simp; omega
      intro v3 w3 hown3 hg3 _
      obtain ⟨g3, c3, rfl, hnc3⟩ := own_some hown3 (by omega)
      have hx3 : ((xs ++ [(L : Int)]).length = n + 1) := by rw [List.length_append, hn.out]; rfl
      have b3 := (World.grownBy.block hg3 lb (lt_blk (old_blk bL _)) (row_ne (World.ownsRow.alloc hown (Obj.cells #[.int .u64 (L : Int)] 32)) (old_blk bL _) (by decide))).trans (old_blk bL _)
      have hh := h1.go (alloc_nb' W1 (Obj.cells #[.int .u64 (L : Int)] 32))
      obtain ⟨h4', k4⟩ := hh.turn (xs' := xs ++ [(L : Int)]) (by rw [hn.out] at *; exact old_blk bL _) (by rw [hn.out]; exact World.ownsRow.alloc hown _) hg3 (by rw [hx3]; simpa using hown3)
      have k14 := (k1.trans (Kl.of_nb (alloc_nb' W1 (Obj.cells #[.int .u64 (L : Int)] 32)))).trans k4
      replace k4 := (Kl.of_nb (lb := lb) (alloc_nb' W1 (Obj.cells #[.int .u64 (L : Int)] 32))).trans k4
      have l0 := cell_of_row _ _ 0 _ _ _ b3
      have lf := frozen_blk b3 0
      clear hh
      go_upto_region 5 with (fail)
      have b4 := heap_setCell_same _ _ 0 _ _ (.slice (some ⟨g3, 0, none⟩) (n + 1) c3) b3
      obtain ⟨W4, hW4⟩ : ∃ W4, w3.setCell ⟨lb, 0, none⟩ (.slice (some ⟨g3, 0, none⟩) (n + 1) c3) = W4 := ⟨_, rfl⟩
      rw [hW4] at h4' k4 k14 b4 ⊢
      replace bV := k4.keep _ _ _ _ bV (by decide) hVl
      clear hW4 k4 k1 h1 hown bL hown3 hg3 b3 l0 lf v2
      replace b4 : W4.heap[lb]? = some (.cells #[.slice (some ⟨g3, 0, none⟩) (n + 1) c3] 31 (0, 0)) := b4
      have hown4 : W4.ownsRow W0.heap.size 32 1 (.slice (some ⟨g3, 0, none⟩) (n + 1) c3) (n + 1) (uL (xs ++ [(L : Int)])) := by
        obtain ⟨sv, e1, e2⟩ := h4'.lbox
        rw [b4] at e1
        simp only [Option.some.injEq, Obj.cells.injEq, and_true, Array.mk.injEq, List.cons.injEq] at e1
        rw [← e1, hx3] at e2
        exact e2
      obtain ⟨v5, w5, hr5, hown5, hg5, hne5⟩ := run_append_zeros (P := Try.prog) W4 W0.heap.size 31 3 31 32 i0 (.int .u64 0) 8 .i64 Try.underlying31 Try.underlying3 hi hz0 hz1 hz2 rfl rfl g3 c3 (n + 1) (uL (xs ++ [(L : Int)])) hown4 L (by unfold maxLen; omega) (by omega) h4'.nb.size
      obtain ⟨g5, c5, rfl, hnc5⟩ := own_some hown5 (by omega)
      have hx5 : ((xs ++ [(L : Int)]) ++ List.replicate L 0).length = n + 1 + L := by rw [List.length_append, hx3, List.length_replicate]
      obtain ⟨h6, k6⟩ := h4'.turn (xs' := (xs ++ [(L : Int)]) ++ List.replicate L 0) b4 (by rw [hx3]; exact hown4) hg5 (by rw [hx5]; simpa [uL] using hown5)
      have b5 := (World.grownBy.block hg5 lb (lt_blk b4) (row_ne hown4 b4 (by decide))).trans b4
      have l0 := cell_of_row _ _ 0 _ _ _ b4
      have l05 := cell_of_row _ _ 0 _ _ _ b5
      have lf5 := frozen_blk b5 0
      have v2 := cell_of_row _ _ 2 _ _ _ bV
      replace hr5 := Lib.hid hr5
      go_upto_region 6 with (at_builtin; refine Lib.wpList_append_run _ rfl (.tmp 24) (.tmp 27) 31 3 rfl (.slice (some ⟨g3, 0, none⟩) (n + 1) c3) (.int .i64 (L : Int)) rfl rfl _ _ hr5.out ?_)
      obtain ⟨W6, hW6⟩ : ∃ W6, w5.setCell ⟨lb, 0, none⟩ (.slice (some ⟨g5, 0, none⟩) (n + 1 + L) c5) = W6 := ⟨_, rfl⟩
      rw [hW6] at h6 k6 ⊢
      have k16 := k14.trans k6
      replace bV := k6.keep _ _ _ _ bV (by decide) hVl
      clear hW6 k14 k6 h4' b4 b5 hown4 hown5 hg5 hr5 l0 l05 lf5 v2 hne5 hnc5
      have hR0 : Hid (Vl.encL bs n 0 ((xs ++ [(L : Int)]) ++ List.replicate L 0) (v.args.drop 0) = E.2) := Lib.hid (by rw [henc.out, List.drop_zero])
      have hE1 : E.1 = tupW bs n := by rw [henc.out]
      have hEl : Hid (E.2.length = n + v.wd) := Lib.hid (by
        rw [henc.out]
        show (Vl.encL bs n 0 _ v.args).length = _
        rw [encL_len bs n v.args (fun x _ l => enc_len bs x l), hx5, hwd]
        omega)
      have v2 := cell_of_row _ _ 2 _ _ _ bV
      replace hx5 := Lib.hid hx5
      replace hx3 := Lib.hid hx3
      replace hE1 := Lib.hid hE1
      replace henc := Lib.hid henc.out
      replace hwd := Lib.hid hwd
      have h6h := Lib.hid h6
      have bVh := Lib.hid bV
      have k6h := Lib.hid k16
      clear h6 bV k16
      go_wp2_with fail
      clear v2
      go_loopw [32] (fun si wr => ∃ i : Nat, i ≤ L ∧ si = .int .i64 i ∧ ∃ ys : List Int, n + 1 + L ≤ ys.length ∧ Hid (LayAt W0 lb fb bb bs wr ys) ∧ Hid (Vl.encL bs n i ys (v.args.drop i) = E.2) ∧ Kl lb w wr ∧ Hid (wr.heap[V]? = some (.cells #[.int .i64 4, .int .i64 v.n, .slice A L cap] 24 (0, 0)))) (fun si _ => L - (intOf si).toNat)
      case atStart => exact ⟨0, Nat.zero_le _, rfl, _, by rw [hx5.out]; exact Nat.le_refl _, h6h, hR0, k6h.out, bVh⟩
      case round =>
        obtain ⟨ii, hii, rfl, ys, hys, hLy, hRy, hKy, hVy⟩ := hrel
        clear h6h hR0 k6h bVh
        by_cases hlt : ii < L
        · have hlt2 : (ii : Int) < (L : Int) := by omega
          obtain ⟨x, hx⟩ : ∃ x, v.args[ii]? = some x := ⟨_, List.getElem?_eq_getElem (by rw [hLh.out]; exact hlt)⟩
          obtain ⟨b', o', rfl, ⟨y0, y1, y2⟩, hxh⟩ := hX.out.at_ hx
          replace y0 := hLy.out.nb.cell y0
          replace y1 := hLy.out.nb.cell y1
          replace y2 := hLy.out.nb.cell y2
          obtain ⟨Ax, cx, hax, -, -, -⟩ := hxh.vls.head
          obtain ⟨Lx, hLx⟩ : ∃ Lx, x.args.length = Lx := ⟨_, rfl⟩
          rw [hLx] at hax
          clear hLx
          have hcx : x.cells.toArray = #[.int .i64 x.kind, .int .i64 x.n, .slice Ax Lx cx] := by rw [← hax]; rfl
          rw [hax] at y2
          clear hax
          have hstep := encL_step bs n ii ys hx
          have hlen : ys.length + sumL ((v.args.drop ii).map Vl.wd) = n + v.wd := by
            rw [← hEl.out, ← hRy.out, encL_len bs n _ (fun y _ l => enc_len bs y l)]
          have hxw : ys.length + x.wd ≤ 1000000 := by
            rw [drop_some hx] at hlen
            simp only [List.map_cons, sumL] at hlen
            omega
          have hcall : Hid (∀ W', Nb wr W' → Calls Try.prog 31 #[.agg #[.int .i64 x.kind, .int .i64 x.n, .slice Ax Lx cx], .pointer (some ⟨lb, 0, none⟩), .pointer (some ⟨fb, 0, none⟩), .pointer (some ⟨bb, 0, none⟩)] W' (fun r w' => r = .returned (.int .u64 (x.enc bs ys).1) ∧ LayAt W0 lb fb bb bs w' (x.enc bs ys).2 ∧ Kl lb W' w')) := Lib.hid (fun W' n' => by
            rw [← hcx]
            exact ih x (List.mem_of_getElem? hx) hxh ys hxw W' (hLy.out.go n'))
          clear hcx
          have hzl : (x.enc bs ys).2.length = ys.length + x.wd := enc_len bs x ys
          obtain ⟨X, hX9⟩ : ∃ X, x.enc bs ys = X := ⟨_, rfl⟩
          rw [hX9] at hcall hstep hzl
          obtain ⟨wx, zs⟩ := X
          clear hX9
          have hRn : Hid (Vl.encL bs n (ii + 1) (zs.set (n + 1 + ii) wx) (v.args.drop (ii + 1)) = E.2) := Lib.hid (by rw [← hRy.out, hstep])
          replace hzl : zs.length = ys.length + x.wd := hzl
          clear hstep hlen hRy hx
          go_upto_region 9 with (fail)
          obtain ⟨W8, hW8⟩ : ∃ W8, wr.alloc (Obj.cells #[.int .i64 x.kind, .int .i64 x.n, .slice Ax Lx cx] 24) = W8 := ⟨_, rfl⟩
          have n8 : Nb wr W8 := by rw [← hW8]; exact (Nb.refl wr).alloc _
          have b8 : W8.heap[wr.heap.size]? = some (.cells #[.int .i64 x.kind, .int .i64 x.n, .slice Ax Lx cx] 24 (0, 0)) := by rw [← hW8]; exact new_blk _ _ rfl
          rw [hW8]
          clear hW8 y0 y1 y2
          obtain ⟨XX, hX8⟩ : ∃ X, wr.heap.size = X := ⟨_, rfl⟩
          rw [hX8] at b8 ⊢
          clear hX8
          have h8 := hLy.out.go n8
          have bV8 := n8.block hVy.out
          have k8 := hKy.trans (Kl.of_nb n8)
          have hc8 := Lib.hid (hcall.out W8 n8)
          clear hLy hVy hKy hcall n8
          have qf := cell_of_row _ _ 0 _ _ _ h8.fbox
          have z0 := cell_of_row _ _ 0 _ _ _ b8
          have z1 := cell_of_row _ _ 1 _ _ _ b8
          have z2 := cell_of_row _ _ 2 _ _ _ b8
          go_upto_region 10 with (go_at_call 31; refine (hc8.out).mono ?_; rintro r w9 ⟨rfl, h9, k9⟩)
          replace bV8 := k9.keep _ _ _ _ bV8 (by decide) hVl
          replace k8 := k8.trans k9
          obtain ⟨sv9, bL9, hown9⟩ := h9.lbox
          replace bL9 : w9.heap[lb]? = some (.cells #[sv9] 31 (0, 0)) := bL9
          replace hown9 : w9.ownsRow W0.heap.size 32 1 sv9 zs.length (uL zs) := hown9
          obtain ⟨g9, c9, rfl, hnc9⟩ := own_some hown9 (by omega)
          have hput := h9.put bL9 hown9 (n + 1 + ii) wx
          have l9 := cell_of_row _ _ 0 _ _ _ bL9
          have hj : n + 1 + ii < zs.length := by omega
          have cj : w9.cell? ⟨g9, n + 1 + ii, none⟩ = some (.int .u64 (zs[n + 1 + ii]'hj)) := by
            rw [hown9.cellAt _ (by omega)]
            simp [hj]
          have fj := hown9.frozenAt (n + 1 + ii)
          replace hput := Lib.hid hput
          clear bL9 hown9 h9
          go_wp2_with fail
          exact ⟨⟨ii + 1, by omega, by simp, zs.set (n + 1 + ii) wx, by rw [List.length_set]; omega, Lib.hid hput.out.1, hRn, k8.trans hput.out.2, Lib.hid (hput.out.2.keep _ _ _ _ bV8 (by decide) hVl)⟩, by simp [intOf] <;> omega⟩
        · obtain rfl : ii = L := by omega
          have hEnd : ys = E.2 := by rw [← hRy.out, List.drop_eq_nil_of_le (by rw [hLh.out]; exact Nat.le_refl _)]; rfl
          have hLE : LayAt W0 lb fb bb bs wr E.2 := by rw [← hEnd]; exact hLy.out
          have qb := cell_of_row _ _ 0 _ _ _ (hLE.nb.block hLE.bbox)
          clear hEnd hRy hLy
          replace hLE := Lib.hid hLE
          go_wp2_with fail
          go_ret
          exact ⟨by rw [hE1.out]; rfl, hLE.out, hKy⟩
    · have henc := Vl.enc_leaf h4 bs xs
      rw [henc]
      obtain ⟨wd, hwd⟩ : ∃ wd, wdOf v.kind v.n = wd := ⟨_, rfl⟩
      have hwo := fun W => wordOf_any v.kind v.n A L cap W
      rw [hwd] at hwo ⊢
      replace hwo := Lib.hid hwo
      clear henc hwd
      go_enter Try.func31, Try.ntmps31
      go_wp2_with (go_at_call 32; refine (hwo.out _).mono ?_; rintro r w2 ⟨rfl, n2⟩)
      go_ret
      have n3 := (alloc_nb' w (Obj.cells #[.int .i64 v.kind, .int .i64 v.n, .slice A L cap] 24)).trans n2
      exact ⟨rfl, hw.go n3, Kl.of_nb n3⟩
end Go.Proofs.Ytmoggaecnjcjfaa
