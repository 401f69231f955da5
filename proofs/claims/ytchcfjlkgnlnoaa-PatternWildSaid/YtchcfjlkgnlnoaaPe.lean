/-
  Proved here: what gathers a pattern's tests, any depth. Conditions: the memory holds the pattern; there are fewer than a million tests, and levels.
-/
import Derived.Test.YtchcfjlkgnlnoaaPd
import Derived.Lib.AppendZeros
namespace Go.Proofs.Ytchcfjlkgnlnoaa
open Go.RowKit Go.ChangeMaps
set_option linter.unusedVariables false
set_option linter.unusedSimpArgs false
set_option maxRecDepth 100000
set_option maxHeartbeats 4000000
/-- Where the row lies to which one has appended. -/
theorem append_where {P : Program} (w : World) (base : Nat) (t ty e : TypeId) (i : TypeInfo) (z : Value) (size bytes : Nat) (ht : P.underlying t = some (.slice e)) (hi : P.info? e = some i) (hz : i.zero = some z)
    (hsize : i.size = size) (hby : i.bytes = bytes) (hzs : z.cells.size = size) (hsz : 0 < size) (v : Value) (n : Nat) (xs : List Value) (hown : w.ownsRow base e size v n xs)
    (a : Addr) (m c : Nat) (hm : 0 < m) (news : List Value) (hl : news.length = m * size) (hnews : ∀ j u, news[j]? = some u → w.cell? (a.add j) = some u) (h1 : ∀ u ∈ news, u.oneCell' = true)
    (h63 : n + m ≤ maxLen) (hbytes : (n + m) * bytes ≤ 140737488355328) (hbase : base ≤ w.heap.size) :
    ∃ g' c' w', (Builtin.append_ #[t, t] ty #[v, .slice (some a) m c]).run P w = .ok (.slice (some ⟨g', 0, none⟩) (n + m) c') w' ∧ w'.ownsRow base e size (.slice (some ⟨g', 0, none⟩) (n + m) c') (n + m) (xs ++ news) ∧ w.grownBy w' v.ownBlock ∧ (v.ownBlock = some g' ∨ g' = w.heap.size) := by
  have hsmall : n + m ≤ 9223372036854775807 := by simp only [maxLen] at h63; omega
  obtain ⟨v', w', hr, ho, hg, -⟩ := run_append_own (P := P) w base t ty e i z size bytes ht hi hz hsize hby hzs hsz v n xs hown a m c news hl hnews h1 h63 hbytes hbase
  subst hsize
  subst hby
  have fin : ∀ (g' c' : Nat) (w'' : World), (Builtin.append_ #[t, t] ty #[v, .slice (some a) m c]).run P w = .ok (.slice (some ⟨g', 0, none⟩) (n + m) c') w'' → (v.ownBlock = some g' ∨ g' = w.heap.size) → ∃ g' c' w', (Builtin.append_ #[t, t] ty #[v, .slice (some a) m c]).run P w = .ok (.slice (some ⟨g', 0, none⟩) (n + m) c') w' ∧ w'.ownsRow base e i.size (.slice (some ⟨g', 0, none⟩) (n + m) c') (n + m) (xs ++ news) ∧ w.grownBy w' v.ownBlock ∧ (v.ownBlock = some g' ∨ g' = w.heap.size) := fun g' c' w'' h hq => by
    have h2 := hr
    rw [h] at h2
    simp only [Result.ok.injEq] at h2
    obtain ⟨rfl, rfl⟩ := h2
    exact ⟨g', c', _, h, ho, hg, hq⟩
  rcases hown.2 with ⟨rfl, rfl⟩ | ⟨g, cap, cur, rfl, hbg, hgc, hnc, hcm, hcs, htake⟩
  · have hq := run_append_nil (P := P) w t ty e i z ht hi hz a m c news hl hnews hm (by omega) (by have hb := hbytes; simp only [Nat.zero_add] at hb; omega)
    exact fin _ _ _ (by rw [Nat.zero_add]; exact hq) (.inr rfl)
  · by_cases hroom : n + m ≤ cap
    · have hfit : n * i.size + news.length ≤ cur.size := by rw [hl, hcs, ← Nat.add_mul]; exact Nat.mul_le_mul_right _ hroom
      exact fin _ _ _ (run_append_room (P := P) w t ty e i ht hi g n cap cur hgc a m c news hl hnews h1 hroom hfit) (.inl rfl)
    · have holds : ∀ j u, xs[j]? = some u → w.cell? ((⟨g, 0, none⟩ : Addr).add j) = some u := hown.cells (g := g) rfl
      exact fin _ _ _ (run_append_grow (P := P) w t ty e i z ht hi hz ⟨g, 0, none⟩ n cap xs hown.1 holds a m c news hl hnews (by omega) (by omega) (growslice_fits (by omega) hbytes)) (.inr rfl)
theorem own_pop {w : World} {base n g c : Nat} {e : TypeId} {xs : List Value} {x : Value} (h : w.ownsRow base e 1 (.slice (some ⟨g, 0, none⟩) (n + 1) c) (n + 1) (xs ++ [x])) (hl : xs.length = n) : w.ownsRow base e 1 (.slice (some ⟨g, 0, none⟩) n c) n xs := by
  refine ⟨by omega, ?_⟩
  rcases h.2 with ⟨h0, -⟩ | ⟨g', cap, cur, h0, hb, hg, hnc, hcm, hcs, ht⟩
  · cases h0
  · simp only [Value.slice.injEq, Option.some.injEq, Addr.mk.injEq, and_true, true_and] at h0
    obtain ⟨rfl, rfl⟩ := h0
    refine .inr ⟨g, c, cur, rfl, hb, hg, by omega, hcm, hcs, ?_⟩
    have h1 := congrArg (List.take (n * 1)) ht
    rw [List.take_take, Nat.min_eq_left (by omega)] at h1
    rw [h1, List.take_append_of_le_length (by omega), List.take_of_length_le (by omega)]
theorem GRow.push {base tb pb : Nat} {w w' : World} {acc : List Ts} {path : List Int} {i : Int} {g c : Nat} {pv : Value} (h : ∃ sv X, w.heap[tb]? = some (.cells #[sv] 39 (0, 0)) ∧ w.ownsRow base 28 3 sv acc.length X ∧ w.heap[pb]? = some (.cells #[pv] 26 (0, 0)) ∧ w.ownsRow base 3 1 pv path.length (iL path) ∧ Elt base w pv.ownBlock X acc)
    (ho : w'.ownsRow base 3 1 (.slice (some ⟨g, 0, none⟩) (path.length + 1) c) (path.length + 1) (iL path ++ [.int .i64 i])) (hg : w.grownBy w' pv.ownBlock) (hw : pv.ownBlock = some g ∨ g = w.heap.size) :
    GRow base tb pb (w'.setCell ⟨pb, 0, none⟩ (.slice (some ⟨g, 0, none⟩) (path.length + 1) c)) acc (path ++ [i]) := by
  obtain ⟨sv, X, a, b, cc, d, e⟩ := h
  have hneq : tb ≠ pb := fun q => by rw [q, cc] at a; cases a
  have a' := grown_blk hg a (row_ne d a (by decide))
  have c' := grown_blk hg cc (row_ne d cc (by decide))
  have b' := b.kept hg (own_ne b d (by decide))
  refine ⟨sv, X, .slice (some ⟨g, 0, none⟩) (path.length + 1) c, ?_, b'.kept (set_grown _ _ _) (own_box b' c' (by decide)), heap_setCell_same _ _ _ _ _ _ c', ?_, ?_⟩
  · rw [heap_setCell_other _ _ _ _ (by simpa using hneq)]; exact a'
  · have : iL (path ++ [i]) = iL path ++ [.int .i64 i] := by simp [iL]
    rw [this, List.length_append, List.length_singleton]
    exact ho.kept (set_grown _ _ _) (own_box ho c' (by decide))
  · have e1 : Elt base w (some g) X acc := ⟨e.len, fun j t hj => by
      obtain ⟨v, p, q, r, o, u⟩ := e.el j t hj
      refine ⟨v, p, q, r, o, ?_⟩
      rcases hw with hw | hw
      · rw [← hw]; exact u
      · cases hq : v.ownBlock with
        | none => exact .inl rfl
        | some k => exact .inr (fun e => by have := (o.lt k hq).2; simp only [Option.some.injEq] at e; omega)⟩
    have e2 : Elt base w' (some g) X acc := ⟨e.len, fun j t hj => by
      obtain ⟨v, p, q, r, o, u⟩ := e.el j t hj
      obtain ⟨v', p', -, -, -, u'⟩ := e1.el j t hj
      rw [p] at p'
      cases p'
      exact ⟨v, p, q, r, o.kept hg u, u'⟩⟩
    exact e2.kept (set_grown _ _ _) (fun v n xs h _ => own_box h c' (by decide))
theorem GRow.pop {base tb pb : Nat} {w : World} {acc : List Ts} {path : List Int} {i : Int} {g c : Nat} (h : ∃ sv X, w.heap[tb]? = some (.cells #[sv] 39 (0, 0)) ∧ w.ownsRow base 28 3 sv acc.length X ∧ w.heap[pb]? = some (.cells #[.slice (some ⟨g, 0, none⟩) (path.length + 1) c] 26 (0, 0)) ∧ w.ownsRow base 3 1 (.slice (some ⟨g, 0, none⟩) (path.length + 1) c) (path.length + 1) (iL path ++ [.int .i64 i]) ∧ Elt base w (some g) X acc) :
    GRow base tb pb (w.setCell ⟨pb, 0, none⟩ (.slice (some ⟨g, 0, none⟩) path.length c)) acc path := by
  obtain ⟨sv, X, a, b, cc, d, e⟩ := h
  have hneq : tb ≠ pb := fun q => by rw [q, cc] at a; cases a
  have d' := own_pop d (by simp)
  refine ⟨sv, X, .slice (some ⟨g, 0, none⟩) path.length c, ?_, b.kept (set_grown _ _ _) (own_box b cc (by decide)), heap_setCell_same _ _ _ _ _ _ cc, d'.kept (set_grown _ _ _) (own_box d' cc (by decide)), e.kept (set_grown _ _ _) (fun v n xs h _ => own_box h cc (by decide))⟩
  rw [heap_setCell_other _ _ _ _ (by simpa using hneq)]; exact a
abbrev askV (tb pb : Nat) : Value := .func (.func 54) #[] #[.pointer (some ⟨tb, 0, none⟩), .pointer (some ⟨pb, 0, none⟩)]
abbrev gthV (ab lb pb gb : Nat) : Value := .func (.func 55) #[] #[.pointer (some ⟨ab, 0, none⟩), .pointer (some ⟨lb, 0, none⟩), .pointer (some ⟨pb, 0, none⟩), .pointer (some ⟨gb, 0, none⟩)]
/-- What gathers: its boxes, and the tests that are there. -/
structure Gth (W0 : World) (tb pb ab lb gb mb : Nat) (w : World) (acc : List Ts) (path : List Int) : Prop where
  nb : Nb W0 w
  row : GRow W0.heap.size tb pb w acc path
  abox : w.heap[ab]? = some (.cells #[askV tb pb] 116 (0, 0))
  lbox : w.heap[lb]? = some (.cells #[.map (some mb)] 98 (0, 0))
  gbox : w.heap[gb]? = some (.cells #[gthV ab lb pb gb] 85 (0, 0))
theorem Gth.go {W0 w w' : World} {tb pb ab lb gb mb : Nat} {acc : List Ts} {path : List Int} (h : Gth W0 tb pb ab lb gb mb w acc path) (k : Nb w w') : Gth W0 tb pb ab lb gb mb w' acc path :=
  ⟨h.nb.trans k, h.row.nb k, k.block h.abox, k.block h.lbox, k.block h.gbox⟩
theorem Gth.ask {W0 w w' : World} {tb pb ab lb gb mb : Nat} {acc acc' : List Ts} {path path' : List Int} (h : Gth W0 tb pb ab lb gb mb w acc path) (n : Nb W0 w') (r : GRow W0.heap.size tb pb w' acc' path') (k : Kt tb pb w w') : Gth W0 tb pb ab lb gb mb w' acc' path' := by
  obtain ⟨sv, X, pv, a, -, c, -, -⟩ := h.row.rows
  have ne : ∀ {b : Nat} {v : Value} {t : TypeId}, w.heap[b]? = some (.cells #[v] t (0, 0)) → t ≠ 39 → t ≠ 26 → b ≠ tb ∧ b ≠ pb := fun hb h1 h2 =>
    ⟨fun e => by rw [e, a] at hb; simp only [Option.some.injEq, Obj.cells.injEq] at hb; exact h1 hb.2.1.symm, fun e => by rw [e, c] at hb; simp only [Option.some.injEq, Obj.cells.injEq] at hb; exact h2 hb.2.1.symm⟩
  exact ⟨n, r, k.keep _ _ _ _ h.abox (by decide) (by decide) (ne h.abox (by decide) (by decide)).1 (ne h.abox (by decide) (by decide)).2, k.keep _ _ _ _ h.lbox (by decide) (by decide) (ne h.lbox (by decide) (by decide)).1 (ne h.lbox (by decide) (by decide)).2, k.keep _ _ _ _ h.gbox (by decide) (by decide) (ne h.gbox (by decide) (by decide)).1 (ne h.gbox (by decide) (by decide)).2⟩
theorem ExsHas.cells_at {w : World} {A : Option Addr} {n cap : Nat} {l : List Ex} (h : ExsHas w (.slice A n cap) l) {i : Nat} {e : Ex} (hi : l[i]? = some e) : ∃ b o, A = some ⟨b, o, none⟩ ∧
    (w.cell? ⟨b, o + i * 5, none⟩ = some (.int .i64 e.kind) ∧ w.cell? ⟨b, o + i * 5 + 1, none⟩ = some (.int .i64 e.at_) ∧ w.cell? ⟨b, o + i * 5 + 2, none⟩ = some (.int .i64 e.n) ∧ w.cell? ⟨b, o + i * 5 + 3, none⟩ = some (sV e.name) ∧ w.cell? ⟨b, o + i * 5 + 4, none⟩ = some e.av) ∧ e.Has w := by
  obtain ⟨b, o, hA, hr⟩ := h.row.at_ (i := i) (r := e.cells) (by rw [List.getElem?_map, hi]; rfl)
  exact ⟨b, o, hA, ⟨hr 0 _ rfl, hr 1 _ rfl, hr 2 _ rfl, hr 3 _ rfl, hr 4 _ rfl⟩, h.kids e (List.mem_of_getElem? hi)⟩
theorem gather_any (W0 : World) (tb pb ab lb gb mb : Nat) (f : Bs → Option Int) (htb : W0.heap.size ≤ tb) (hpb : W0.heap.size ≤ pb) (hm : SMap W0 mb f) (pl : Bs → Int) (hpl : ∀ s, pl s = (f s).getD (-1)) : ∀ e : Ex, e.Has W0 → ∀ (acc : List Ts) (path : List Int), acc.length + (e.tsP pl path).length ≤ 1000000 → path.length + e.dpt ≤ 1000000 → ∀ w, Gth W0 tb pb ab lb gb mb w acc path →
    Calls Try.prog 55 #[.agg e.cells.toArray, .pointer (some ⟨ab, 0, none⟩), .pointer (some ⟨lb, 0, none⟩), .pointer (some ⟨pb, 0, none⟩), .pointer (some ⟨gb, 0, none⟩)] w fun r w' => r = .returned (.tuple #[]) ∧ Gth W0 tb pb ab lb gb mb w' (acc ++ e.tsP pl path) path := by
  obtain ⟨i0, hi0, hz0, hz1, hz2⟩ := partsI
  intro e
  induction e using Ex.ind with
  | h e ih =>
    intro he acc path hacc hpath w hw
    obtain ⟨A, cap, hav, hcap, hlen, hA⟩ := he.exs.head
    have hX := Lib.hid (show ExsHas W0 (.slice A e.args.length cap) e.args by rw [← hav]; exact he.exs)
    have hcs : e.cells.toArray = #[.int .i64 e.kind, .int .i64 e.at_, .int .i64 e.n, sV e.name, .slice A e.args.length cap] := by rw [← hav]; rfl
    rw [hcs]
    clear hcs
    obtain ⟨L, hL⟩ : ∃ L, e.args.length = L := ⟨_, rfl⟩
    have hLh := Lib.hid hL
    rw [hL] at hcap hlen hX hav ⊢
    clear hL hav
    obtain ⟨k, hk⟩ : ∃ k, e.kind = k := ⟨_, rfl⟩
    obtain ⟨n, hn⟩ : ∃ k, e.n = k := ⟨_, rfl⟩
    obtain ⟨at_, hat⟩ : ∃ k, e.at_ = k := ⟨_, rfl⟩
    obtain ⟨nm, hnm⟩ : ∃ k, e.name = k := ⟨_, rfl⟩
    rw [hk, hn, hat, hnm]
    obtain ⟨TT, hTT⟩ : ∃ TT, e.tsP pl path = TT := ⟨_, rfl⟩
    rw [hTT] at hacc ⊢
    replace hTT := Lib.hid hTT
    replace hk := Lib.hid hk
    replace hn := Lib.hid hn
    replace hnm := Lib.hid hnm
    replace hm := Lib.hid hm
    replace hpl := Lib.hid hpl
    clear hat
    have hd1 : path.length + 1 ≤ 1000000 := by cases e; simp only [Ex.dpt] at hpath; omega
    replace hpath := Lib.hid hpath
    go_enter Try.func55, Try.ntmps55
    go_upto_region 1 with (fail)
    obtain ⟨W1, hW1⟩ : ∃ W1, w.alloc (Obj.cells #[.int .i64 k, .int .i64 at_, .int .i64 n, sV nm, .slice A L cap] 24) = W1 := ⟨_, rfl⟩
    have n1 : Nb w W1 := by rw [← hW1]; exact (Nb.refl w).alloc _
    have bV : W1.heap[w.heap.size]? = some (.cells #[.int .i64 k, .int .i64 at_, .int .i64 n, sV nm, .slice A L cap] 24 (0, 0)) := by rw [← hW1]; exact new_blk _ _ rfl
    rw [hW1]
    clear hW1
    obtain ⟨V, hV⟩ : ∃ V, w.heap.size = V := ⟨_, rfl⟩
    rw [hV] at bV ⊢
    have h1 := hw.go n1
    clear hV hw n1
    have z0 := cell_of_row _ _ 0 _ _ _ bV
    have z2 := cell_of_row _ _ 2 _ _ _ bV
    have z3 := cell_of_row _ _ 3 _ _ _ bV
    have z4 := cell_of_row _ _ 4 _ _ _ bV
    have qa := cell_of_row _ _ 0 _ _ _ h1.abox
    have ql := cell_of_row _ _ 0 _ _ _ h1.lbox
    have hAsk := Lib.hid (fun (m : Int) (n' : Int) (hl : acc.length < 1000000) => ask_any W0 tb pb htb m n' acc path hl (by omega) W1 h1.nb h1.row)
    replace h1 := Lib.hid h1
    by_cases k2 : k = 2
    · have hT := hTT.out
      rw [tsP_int (hk.out.trans k2), hn.out] at hT
      have hask := Lib.hid (hAsk.out 2 n (by rw [← hT] at hacc; simp at hacc; omega))
      subst k2
      replace hT := Lib.hid hT
      clear bV
      go_wp2_with (go_at_call 54; refine (hask.out).mono ?_; rintro r w2 ⟨rfl, hn2, hr2, hk2⟩)
      go_end0
      exact ⟨rfl, by rw [← hT.out]; exact h1.out.ask hn2 hr2 hk2⟩
    · by_cases k3 : k = 3
      · have hT := hTT.out
        rw [tsP_atom (hk.out.trans k3), hnm.out, hpl.out] at hT
        cases hq : f nm with
        | none =>
          have hr : (f nm).getD 0 = 0 := by rw [hq]; rfl
          have ht : (f nm).isSome = false := by rw [hq]; rfl
          have hask := Lib.hid (hAsk.out 3 (-1) (by rw [← hT] at hacc; simp at hacc; omega))
          rw [hq] at hT
          replace hT := Lib.hid hT
          replace hr := Lib.hid hr
          replace ht := Lib.hid ht
          have hmm := Lib.hid (hm.out.nb h1.out.nb)
          subst k3
          clear bV hq
          go_upto_region 5 with (fail)
          go_upto_region 6 with (refine wpList_look_s rfl (.tmp 23) (.tmp 25) rfl hmm.out rfl rfl hr.out ht.out ?_)
          go_wp2_with (go_at_call 54; refine (hask.out).mono ?_; rintro r w2 ⟨rfl, hn2, hr2, hk2⟩)
          go_end0
          exact ⟨rfl, by rw [← hT.out]; exact h1.out.ask hn2 hr2 hk2⟩
        | some m =>
          have hr : (f nm).getD 0 = m := by rw [hq]; rfl
          have ht : (f nm).isSome = true := by rw [hq]; rfl
          have hask := Lib.hid (hAsk.out 3 m (by rw [← hT] at hacc; simp at hacc; omega))
          rw [hq] at hT
          replace hT := Lib.hid hT
          replace hr := Lib.hid hr
          replace ht := Lib.hid ht
          have hmm := Lib.hid (hm.out.nb h1.out.nb)
          subst k3
          clear bV hq
          go_upto_region 5 with (fail)
          go_upto_region 6 with (refine wpList_look_s rfl (.tmp 23) (.tmp 25) rfl hmm.out rfl rfl hr.out ht.out ?_)
          go_wp2_with (go_at_call 54; refine (hask.out).mono ?_; rintro r w2 ⟨rfl, hn2, hr2, hk2⟩)
          go_end0
          exact ⟨rfl, by rw [← hT.out]; exact h1.out.ask hn2 hr2 hk2⟩
      · by_cases k5 : k = 5
        · have hT := hTT.out
          rw [tsP_tup (hk.out.trans k5), hLh.out] at hT
          have hTl : 1 ≤ TT.length := by rw [← hT]; simp
          have hask := Lib.hid (hAsk.out 5 (L : Int) (by omega))
          subst k5
          replace hT := Lib.hid hT
          go_upto_region 11 with (go_at_call 54; refine (hask.out).mono ?_; rintro r w2 ⟨rfl, hn2, hr2, hk2⟩)
          obtain ⟨sv, X, pv, bT, -, bP, -, -⟩ := h1.out.row.rows
          have bV2 := hk2.keep _ _ _ _ bV (by decide) (by decide) (fun e => by rw [e, bT] at bV; cases bV) (fun e => by rw [e, bP] at bV; cases bV)
          have h2 := Lib.hid (h1.out.ask hn2 hr2 hk2)
          replace z4 := cell_of_row _ _ 4 _ _ _ bV2
          clear z0 z2 z3 qa ql hask hAsk h1 bT bP bV hn2 hr2 hk2
          go_wp2_with fail
          have hR0 : Hid (∃ ac : List Ts, Gth W0 tb pb ab lb gb mb w2 ac path ∧ ac ++ Ex.tsL pl path 0 (e.args.drop 0) = acc ++ TT) := Lib.hid ⟨_, h2.out, by rw [← hT.out, List.drop_zero, List.append_assoc]; rfl⟩
          go_loopw [48] (fun si wr => ∃ i : Nat, i ≤ L ∧ si = .int .i64 i ∧ Hid (∃ ac : List Ts, Gth W0 tb pb ab lb gb mb wr ac path ∧ ac ++ Ex.tsL pl path i (e.args.drop i) = acc ++ TT)) (fun si _ => L - (intOf si).toNat)
          case atStart => exact ⟨0, Nat.zero_le _, rfl, hR0⟩
          case round =>
            obtain ⟨i, hi, rfl, hR⟩ := hrel
            clear hR0
            by_cases hlt : i < L
            · have hlt2 : (i : Int) < (L : Int) := by omega
              obtain ⟨x, hx⟩ : ∃ x, e.args[i]? = some x := ⟨_, List.getElem?_eq_getElem (by rw [hLh.out]; exact hlt)⟩
              obtain ⟨b', o', rfl, ⟨y0, y1, y2, y3, y4⟩, hxh⟩ := hX.out.cells_at hx
              obtain ⟨ac, hg, hac⟩ := hR.out
              have hdp := dpt_mem (List.mem_of_getElem? hx)
              have hp1 : (path ++ [(i : Int)]).length = path.length + 1 := by simp
              rw [tsL_step hx] at hac
              have hlens := congrArg List.length hac
              simp only [List.length_append] at hlens
              have hih := Lib.hid (ih x (List.mem_of_getElem? hx) hxh ac (path ++ [(i : Int)]) (by omega) (by have := hpath.out; omega))
              replace y0 := hg.nb.cell y0
              replace y1 := hg.nb.cell y1
              replace y2 := hg.nb.cell y2
              replace y3 := hg.nb.cell y3
              replace y4 := hg.nb.cell y4
              obtain ⟨Ax, cx, hax, -, -, -⟩ := hxh.exs.head
              obtain ⟨Lx, hLx⟩ : ∃ Lx, x.args.length = Lx := ⟨_, rfl⟩
              rw [hLx] at hax
              clear hLx
              have hcx : x.cells.toArray = #[.int .i64 x.kind, .int .i64 x.at_, .int .i64 x.n, sV x.name, .slice Ax Lx cx] := by rw [← hax]; rfl
              rw [hcx] at hih
              rw [hax] at y4
              clear hax hcx
              have hRn : Hid ((ac ++ x.tsP pl (path ++ [(i : Int)])) ++ Ex.tsL pl path (i + 1) (e.args.drop (i + 1)) = acc ++ TT) := Lib.hid (by rw [← hac, List.append_assoc])
              obtain ⟨xs, hxs⟩ : ∃ xs, x.tsP pl (path ++ [(i : Int)]) = xs := ⟨_, rfl⟩
              rw [hxs] at hih hRn
              clear hR hac hlens hx hxh hdp hxs
              go_upto_region 14 with (fail)
              obtain ⟨W5, hW5⟩ : ∃ W5, wr.alloc (Obj.cells #[.int .i64 x.kind, .int .i64 x.at_, .int .i64 x.n, sV x.name, .slice Ax Lx cx] 24) = W5 := ⟨_, rfl⟩
              have n5 : Nb wr W5 := by rw [← hW5]; exact (Nb.refl wr).alloc _
              have b5 : W5.heap[wr.heap.size]? = some (.cells #[.int .i64 x.kind, .int .i64 x.at_, .int .i64 x.n, sV x.name, .slice Ax Lx cx] 24 (0, 0)) := by rw [← hW5]; exact new_blk _ _ rfl
              rw [hW5]
              clear hW5 y0 y1 y2 y3 y4
              obtain ⟨Y, hY⟩ : ∃ Y, wr.heap.size = Y := ⟨_, rfl⟩
              rw [hY] at b5 ⊢
              clear hY
              have h5 := hg.go n5
              clear hg n5
              obtain ⟨sv, X, pv, bT, oT, bP, oP, hE⟩ := h5.row.rows
              obtain ⟨B, c, rfl⟩ := own_slice oP
              obtain ⟨pn, hpn⟩ : ∃ pn, path.length = pn := ⟨_, rfl⟩
              have hd2 : pn + 1 ≤ 1000000 := by omega
              have hrows := Lib.hid (show ∃ sv X, W5.heap[tb]? = some (.cells #[sv] 39 (0, 0)) ∧ W5.ownsRow W0.heap.size 28 3 sv ac.length X ∧ W5.heap[pb]? = some (.cells #[.slice B path.length c] 26 (0, 0)) ∧ W5.ownsRow W0.heap.size 3 1 (.slice B path.length c) path.length (iL path) ∧ Elt W0.heap.size W5 (Value.slice B path.length c).ownBlock X ac from ⟨sv, X, bT, oT, bP, oP, hE⟩)
              rw [hpn] at bP oP
              replace hpn := Lib.hid hpn
              have p0 := cell_of_row _ _ 0 _ _ _ bP
              have n6 : Nb W5 (W5.alloc (Obj.cells #[.int .i64 (i : Int)] 3)) := (Nb.refl W5).alloc _
              obtain ⟨g', c', w9, hrun, o9, g9, hwh⟩ := append_where (P := Try.prog) (W5.alloc (Obj.cells #[.int .i64 (i : Int)] 3)) W0.heap.size 26 26 3 i0 (.int .i64 0) 1 8 Try.underlying26 hi0 hz0 hz1 hz2 rfl (by decide) (.slice B pn c) pn (iL path) (oP.alloc _) ⟨W5.heap.size, 0, none⟩ 1 1 (by decide) [.int .i64 (i : Int)] rfl (fun j u hu => by rw [Addr.add_mid, Nat.zero_add, cell_of_row _ _ _ _ _ _ (new_blk W5 (Obj.cells #[.int .i64 (i : Int)] 3) rfl)]; simpa using hu) (by intro u hu; rw [List.mem_singleton.1 hu]; rfl) (by unfold maxLen; omega) (by omega) (by have := h5.nb.size; have := n6.size; omega)
              have bP9 := grown_blk g9 (old_blk bP (Obj.cells #[.int .i64 (i : Int)] 3)) (row_ne (oP.alloc (Obj.cells #[.int .i64 (i : Int)] 3)) (old_blk bP (Obj.cells #[.int .i64 (i : Int)] 3)) (by decide))
              have b9 := grown_blk g9 (old_blk b5 (Obj.cells #[.int .i64 (i : Int)] 3)) (row_ne (oP.alloc (Obj.cells #[.int .i64 (i : Int)] 3)) (old_blk b5 (Obj.cells #[.int .i64 (i : Int)] 3)) (by decide))
              have p9 : w9.cell? ⟨pb, 0, none⟩ = some (.slice B pn c) := cell_of_row _ _ 0 _ _ _ bP9
              have f9 : w9.frozen? ⟨pb, 0, none⟩ = false := frozen_blk bP9 0
              replace hrun := Lib.hid hrun
              have h9 : Hid (Gth W0 tb pb ab lb gb mb (w9.setCell ⟨pb, 0, none⟩ (.slice (some ⟨g', 0, none⟩) (pn + 1) c')) ac (path ++ [(i : Int)]) ∧ (w9.setCell ⟨pb, 0, none⟩ (.slice (some ⟨g', 0, none⟩) (pn + 1) c')).heap[Y]? = some (.cells #[.int .i64 x.kind, .int .i64 x.at_, .int .i64 x.n, sV x.name, .slice Ax Lx cx] 24 (0, 0))) := by
                obtain ⟨sv', X', q1, q2, q3, q4, q5⟩ := hrows.out
                have g9p := g9
                have hwp := hwh
                rw [← hpn.out] at g9p hwp
                have gr := GRow.push (i := (i : Int)) (w := W5.alloc (Obj.cells #[.int .i64 (i : Int)] 3)) (pv := .slice B path.length c) ⟨sv', X', old_blk q1 _, q2.alloc _, old_blk q3 _, q4.alloc _, q5.kept (nb_grown n6) (fun v _ _ _ _ => none_or v)⟩ (by rw [hpn.out]; exact o9) g9p hwp
                rw [hpn.out] at gr
                have h6 := h5.go n6
                have ne : ∀ {b : Nat} {v : Value} {t : TypeId}, W5.heap[b]? = some (.cells #[v] t (0, 0)) → t ≠ 26 → t ≠ 3 → (w9.setCell ⟨pb, 0, none⟩ (.slice (some ⟨g', 0, none⟩) (pn + 1) c')).heap[b]? = some (.cells #[v] t (0, 0)) := fun hb h1 h2 => by
                  rw [heap_setCell_other _ _ _ _ (by intro e; simp only at e; rw [e, bP] at hb; simp only [Option.some.injEq, Obj.cells.injEq] at hb; exact h1 hb.2.1.symm)]
                  exact grown_blk g9 (old_blk hb (Obj.cells #[.int .i64 (i : Int)] 3)) (row_ne (oP.alloc (Obj.cells #[.int .i64 (i : Int)] 3)) (old_blk hb (Obj.cells #[.int .i64 (i : Int)] 3)) h2)
                refine Lib.hid ⟨⟨(Below.grown h6.nb g9 h6.nb.size (fun k hk => ((oP.alloc (Obj.cells #[.int .i64 (i : Int)] 3)).lt k hk).1)).setCell (p := ⟨pb, 0, none⟩) hpb _, gr, ne h5.abox (by decide) (by decide), ne h5.lbox (by decide) (by decide), ne h5.gbox (by decide) (by decide)⟩, ?_⟩
                rw [heap_setCell_other _ _ _ _ (by intro e; simp only at e; rw [e, bP9] at b9; cases b9)]
                exact b9
              clear hrows o9 g9 hwh n6 bP oP bT oT hE h5 bP9 b9 b5
              go_upto_region 15 with (at_builtin; go_loud (refine Lib.wpList_append_run _ rfl (.tmp 53) (.tmp 55) 26 26 rfl (.slice B pn c) (.slice (some ⟨W5.heap.size, 0, none⟩) 1 1) rfl rfl _ _ hrun.out ?_))
              obtain ⟨W7, hW7⟩ : ∃ W7, w9.setCell ⟨pb, 0, none⟩ (.slice (some ⟨g', 0, none⟩) (pn + 1) c') = W7 := ⟨_, rfl⟩
              rw [hW7] at h9 ⊢
              clear hW7 hrun p9 f9 p0
              obtain ⟨h9, b9⟩ := h9.out
              have hcall := Lib.hid (hih.out W7 h9)
              have qg := cell_of_row _ _ 0 _ _ _ h9.gbox
              have v0 := cell_of_row _ _ 0 _ _ _ b9
              have v1 := cell_of_row _ _ 1 _ _ _ b9
              have v2 := cell_of_row _ _ 2 _ _ _ b9
              have v3 := cell_of_row _ _ 3 _ _ _ b9
              have v4 := cell_of_row _ _ 4 _ _ _ b9
              clear h9 b9 hih
              go_upto_region 16 with (go_at_call 55; refine (hcall.out).mono ?_; rintro r w8 ⟨rfl, h8⟩)
              clear v0 v1 v2 v3 v4 qg hcall
              obtain ⟨sv, X, pv, bT, oT, bP, oP, hE⟩ := h8.row.rows
              rw [hp1] at oP
              obtain ⟨g8, c8, rfl, hc8⟩ := own_some oP (by omega)
              have hil : iL (path ++ [(i : Int)]) = iL path ++ [.int .i64 (i : Int)] := by simp [iL]
              rw [hil] at oP
              have hpop := GRow.pop ⟨sv, X, bT, oT, bP, oP, hE⟩
              have hfin : Hid (Gth W0 tb pb ab lb gb mb (w8.setCell ⟨pb, 0, none⟩ (.slice (some ⟨g8, 0, none⟩) path.length c8)) (ac ++ xs) path) := by
                have ne : ∀ {b : Nat} {v : Value} {t : TypeId}, w8.heap[b]? = some (.cells #[v] t (0, 0)) → t ≠ 26 → (w8.setCell ⟨pb, 0, none⟩ (.slice (some ⟨g8, 0, none⟩) path.length c8)).heap[b]? = some (.cells #[v] t (0, 0)) := fun hb h1 => by
                  rw [heap_setCell_other _ _ _ _ (by intro e; simp only at e; rw [e, bP] at hb; simp only [Option.some.injEq, Obj.cells.injEq] at hb; exact h1 hb.2.1.symm)]
                  exact hb
                exact Lib.hid ⟨h8.nb.setCell (p := ⟨pb, 0, none⟩) hpb _, hpop, ne h8.abox (by decide), ne h8.lbox (by decide), ne h8.gbox (by decide)⟩
              rw [hpn.out] at bP hfin hc8
              have p8 : w8.cell? ⟨pb, 0, none⟩ = some (.slice (some ⟨g8, 0, none⟩) (pn + 1) c8) := cell_of_row _ _ 0 _ _ _ bP
              have f8 : w8.frozen? ⟨pb, 0, none⟩ = false := frozen_blk bP 0
              obtain ⟨q, hq⟩ : ∃ q, pn + 1 = q := ⟨_, rfl⟩
              rw [hq] at p8 hc8
              have hc0 : ¬ c8 = 0 := by omega
              have hwr : IntKind.i64.wrap ((q : Int) - 1) = (pn : Int) := by rw [IntKind.wrap_i64]; omega
              have hpc : pn ≤ c8 := by omega
              have hpc2 : (pn : Int) ≤ (c8 : Int) := by omega
              clear hq hc8 bP bT oT oP hE hpop h8 hil
              go_wp2_with fail
              exact ⟨⟨i + 1, by omega, by simp, Lib.hid ⟨_, hfin.out, hRn.out⟩⟩, by simp [intOf] <;> omega⟩
            · obtain rfl : i = L := by omega
              obtain ⟨ac, hg, hac⟩ := hR.out
              rw [List.drop_eq_nil_of_le (by rw [hLh.out]; exact Nat.le_refl _), Ex.tsL, List.append_nil] at hac
              subst hac
              replace hg := Lib.hid hg
              clear hR
              go_wp2_with fail
              go_end0
              exact ⟨rfl, hg.out⟩
        · have hT := hTT.out
          rw [tsP_other (fun q => k2 (hk.out.symm.trans q)) (fun q => k3 (hk.out.symm.trans q)) (fun q => k5 (hk.out.symm.trans q))] at hT
          subst hT
          clear bV
          go_wp2_with fail
          go_end0
          exact ⟨rfl, by rw [List.append_nil]; exact h1.out⟩
end Go.Proofs.Ytchcfjlkgnlnoaa
