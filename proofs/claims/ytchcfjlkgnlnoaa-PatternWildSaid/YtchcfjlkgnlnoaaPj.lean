/-
  Proved here: what gathers a pattern's variables, any depth. Conditions: the memory holds the pattern; each of its tuples has a variable in it; there are fewer than a million variables, and levels.
-/
import Derived.Test.YtchcfjlkgnlnoaaPi
namespace Go.Proofs.Ytchcfjlkgnlnoaa
open Go.RowKit Go.ChangeMaps
set_option linter.unusedVariables false
set_option linter.unusedSimpArgs false
set_option maxRecDepth 100000
set_option maxHeartbeats 4000000
theorem part_ptrP {cs : Array Value} {k : Nat} {v : Value} {w : World} (h : cs[k]? = some v) : (part 87 cs k).run Try.prog w = .ok v w := by
  simp [part, isAgg, run_underlying Try.underlying87, h]
theorem part_intP {cs : Array Value} {k : Nat} {v : Value} {w : World} (h : cs[k]? = some v) : (part 3 cs k).run Try.prog w = .ok v w := by
  simp [part, isAgg, run_underlying Try.underlying3, h]
theorem check_keyP (em : Bool) (b o : Nat) (n : Int) (w : World) : (Instr.checkKey em 10000 89 (.agg #[.pointer (some ⟨b, o, none⟩), .int .i64 n])).run Try.prog w = .ok () w := by
  have e1 : ∀ m a, (Instr.checkKey em (m + 1) 87 (.pointer a)).run Try.prog w = .ok () w := fun m a => by simp [Instr.checkKey, run_underlying Try.underlying87]
  have e2 : ∀ m a, (Instr.checkKey em (m + 1) 3 (.int .i64 a)).run Try.prog w = .ok () w := fun m a => by simp [Instr.checkKey, run_underlying Try.underlying3]
  show (Instr.checkKey em (9998 + 1 + 1) 89 (.agg #[.pointer (some ⟨b, o, none⟩), .int .i64 n])).run Try.prog w = .ok () w
  unfold Instr.checkKey
  simp only [Sem.run_bind, run_underlying Try.underlying89, Result.andThen_ok]
  simp [e1, e2, part_ptrP, part_intP]
theorem find_none (w : World) (k : Value) : (Instr.findKey 89 k (#[] : Array MapEntry).toList).run Try.prog w = .ok none w := by
  simp [Instr.findKey, Instr.findNow, run_underlying Try.underlying89, Result.andThen]
theorem look_none {w : World} {mb : Nat} (hm : w.heap[mb]? = some (.map #[] 0)) (b o : Nat) (n : Int) :
    (Instr.lookup 84 (.map (some mb)) (.agg #[.pointer (some ⟨b, o, none⟩), .int .i64 n]) true).run Try.prog w = .ok (.tuple #[.agg #[], .bool false]) w := by
  have hz : (zeroValue 91).run Try.prog w = .ok (.agg #[]) w := by kernel_rfl
  simp only [Instr.lookup, Sem.run_bind, run_underlying Try.underlying84, MapKept.run_getObj_map hm, check_keyP, find_none, hz, Result.andThen_ok, Sem.run_pure]
  rfl
theorem wpList_look_none {w : World} {ops : Array Oper} {rest : List Oper} {o : Oper} {a : Act} {Q' : Exit → Act → World → Prop} (hg : o.guard = none) (m x : Operand) (hop : o.op = Op.lookup 84 m x true)
    {mb : Nat} (h : w.heap[mb]? = some (.map #[] 0)) {b of : Nat} {n : Int} (hm : a.eval m = .map (some mb)) (hx : a.eval x = .agg #[.pointer (some ⟨b, of, none⟩), .int .i64 n])
    (h0 : wpList Try.prog ops Q' rest (a.put o.dst (.tuple #[.agg #[], .bool false])) w) : wpList Try.prog ops Q' (o :: rest) a w := by
  refine wpList_plain hg fun K' hK' => ?_
  have hrun := look_none h b of n
  unfold Oper.wp
  simp [execOp, hop, hm, hx, hrun, Result.andThen]
  exact hK' _ _ h0
theorem listOfP (b o L cap : Nat) (w : World) (h0 : 0 < L) : Calls Try.prog 37 #[.slice (some ⟨b, o, none⟩) L cap] w fun r w' => r = .returned (.agg #[.pointer (some ⟨b, o, none⟩), .int .i64 (L : Int)]) ∧ Nb w w' := by
  have h1 : ¬ (L : Int) = 0 := by omega
  have h2 : (0 : Int) < (L : Int) := by omega
  go_enter Try.func37, Try.ntmps37
  go_wp2
  exact bodyPost_ret (v := .agg #[.pointer (some ⟨b, o, none⟩), .int .i64 (L : Int)]) (by simp [results, Try.results37, go_sem]) rfl ⟨rfl, by repeat (first | exact Nb.refl _ | apply Nb.alloc)⟩
theorem infoS : (Try.prog.info? 9).map (fun i => (i.zero, i.size, i.bytes)) = some (some (.string ⟨#[]⟩), 1, 16) := by kernel_rfl
theorem partsS : ∃ i, Try.prog.info? 9 = some i ∧ i.zero = some (.string ⟨#[]⟩) ∧ i.size = 1 ∧ i.bytes = 16 := by
  have h := infoS
  cases hq : Try.prog.info? 9 with
  | none => rw [hq] at h; cases h
  | some i =>
    rw [hq] at h
    simp only [Option.map_some, Option.some.injEq, Prod.mk.injEq] at h
    exact ⟨i, rfl, h.1, h.2.1, h.2.2⟩
theorem infoIs : (Try.prog.info? 26).map (fun i => (i.zero, i.size, i.bytes)) = some (some (.slice none 0 0), 1, 24) := by kernel_rfl
theorem partsIs : ∃ i, Try.prog.info? 26 = some i ∧ i.zero = some (.slice none 0 0) ∧ i.size = 1 ∧ i.bytes = 24 := by
  have h := infoIs
  cases hq : Try.prog.info? 26 with
  | none => rw [hq] at h; cases h
  | some i =>
    rw [hq] at h
    simp only [Option.map_some, Option.some.injEq, Prod.mk.injEq] at h
    exact ⟨i, rfl, h.1, h.2.1, h.2.2⟩
theorem news1 (w : World) (x : Value) (t : TypeId) : ∀ j u, ([x] : List Value)[j]? = some u → (w.alloc (.cells #[x] t)).cell? ((⟨w.heap.size, 0, none⟩ : Addr).add j) = some u := fun j u h =>
  World.news_of_block (cs := #[x]) (t := t) (fr := (0, 0)) (heap_alloc_new w _) j u (by simpa using h)
abbrev VRaw (B1 nb qb pb : Nat) (w : World) (nl : List Value) (acc : List (List Int)) (path : List Int) (nv qv pv : Value) (X : List Value) : Prop :=
  w.heap[nb]? = some (.cells #[nv] 25 (0, 0)) ∧ w.ownsRow B1 9 1 nv nl.length nl ∧ w.heap[qb]? = some (.cells #[qv] 35 (0, 0)) ∧ w.ownsRow B1 26 1 qv acc.length X ∧ w.heap[pb]? = some (.cells #[pv] 26 (0, 0)) ∧ w.ownsRow B1 3 1 pv path.length (iL path) ∧ Elp B1 w pv.ownBlock X acc
theorem VRaw.go {B1 nb qb pb : Nat} {w w' : World} {nl : List Value} {acc : List (List Int)} {path : List Int} {nv qv pv : Value} {X : List Value} (h : VRaw B1 nb qb pb w nl acc path nv qv pv X) (k : Nb w w') : VRaw B1 nb qb pb w' nl acc path nv qv pv X := by
  obtain ⟨a, b, c, d, e, f, g⟩ := h
  exact ⟨k.block a, b.kept (nb_grown k) (none_or _), k.block c, d.kept (nb_grown k) (none_or _), k.block e, f.kept (nb_grown k) (none_or _), g.kept (nb_grown k) (fun v _ _ _ _ => none_or v)⟩
theorem twoL {P : Program} {ops : Array Oper} {Q : Exit → Act → World → Prop} {md : Region.Mode} {ks : List Nat} {F G : World → Prop} {i j : Nat} {o o' : Oper} {fuel : Nat} {listed : Array Bool} {a : Act} {w : World} (hr : Region.ready md ops listed = [i, j]) (ho : ops[i]? = some o) (ho' : ops[j]? = some o')
    (h : ∀ K' : Act → World → Prop, Shut (∀ a w, Late ks F G (listed.setIfInBounds i true) w → (Late ks F G (listed.setIfInBounds i true) w → wpAnyL P md ops Q ks F G fuel (listed.setIfInBounds i true) a w) → K' a w) → if Region.wanted o (yielded ops a.tmps) = true then Oper.wp P o a w K' Q else K' (a.put o.dst undef) w)
    (h' : ∀ K' : Act → World → Prop, Shut (∀ a w, Late ks F G (listed.setIfInBounds j true) w → (Late ks F G (listed.setIfInBounds j true) w → wpAnyL P md ops Q ks F G fuel (listed.setIfInBounds j true) a w) → K' a w) → if Region.wanted o' (yielded ops a.tmps) = true then Oper.wp P o' a w K' Q else K' (a.put o'.dst undef) w) :
    wpAnyL P md ops Q ks F G (fuel + 1) listed a w := by
  refine ⟨fun h0 => (by rw [h0] at hr; cases hr), fun k hk => ?_⟩
  rw [hr] at hk
  simp only [List.mem_cons, List.not_mem_nil, or_false] at hk
  rcases hk with rfl | rfl
  · exact wpOp_step ho (fun K' hK => h K' (fun a w hS hW => hK a w ⟨hS, hW hS⟩))
  · exact wpOp_step ho' (fun K' hK => h' K' (fun a w hS hW => hK a w ⟨hS, hW hS⟩))
theorem twoL_l {P : Program} {l : List Oper} {Q : Exit → Act → World → Prop} {md : Region.Mode} {ks : List Nat} {F G : World → Prop} {i j : Nat} {o o' : Oper} {fuel : Nat} {listed : Array Bool} {a : Act} {w : World} (hr : Region.ready md l.toArray listed = [i, j]) (ho : l[i]? = some o) (ho' : l[j]? = some o')
    (hwant : Region.wanted o (yielded l.toArray a.tmps) = true) (hwant' : Region.wanted o' (yielded l.toArray a.tmps) = true)
    (h : ∀ K' : Act → World → Prop, Shut (∀ a w, Late ks F G (listed.setIfInBounds i true) w → (Late ks F G (listed.setIfInBounds i true) w → wpAnyL P md l.toArray Q ks F G fuel (listed.setIfInBounds i true) a w) → K' a w) → Oper.wp P o a w K' Q)
    (h' : ∀ K' : Act → World → Prop, Shut (∀ a w, Late ks F G (listed.setIfInBounds j true) w → (Late ks F G (listed.setIfInBounds j true) w → wpAnyL P md l.toArray Q ks F G fuel (listed.setIfInBounds j true) a w) → K' a w) → Oper.wp P o' a w K' Q) :
    wpAnyL P md l.toArray Q ks F G (fuel + 1) listed a w :=
  twoL hr (by rw [List.getElem?_toArray]; exact ho) (by rw [List.getElem?_toArray]; exact ho') (fun K' hK => by rw [if_pos hwant]; exact h K' hK) (fun K' hK => by rw [if_pos hwant']; exact h' K' hK)
theorem set2P {w : World} {n : Nat} {t : TypeId} {a b x y : Value} (h : w.heap[n]? = some (.cells #[a, b] t (0, 0))) : ((w.setCell ⟨n, 0, none⟩ x).setCell ⟨n, 1, none⟩ y).heap[n]? = some (.cells #[x, y] t (0, 0)) := by
  have h1 := heap_setCell_same w n 0 _ _ x h
  have h2 := heap_setCell_same _ n 1 _ _ y h1
  simpa using h2
theorem vars_any (W0 : World) (nb qb pb mb mx gb B1 : Nat) (hc : VC W0 nb qb pb mb mx gb B1) : ∀ e : Ex, e.Has W0 → e.full = true → ∀ (nl : List Value) (acc : List (List Int)) (path : List Int), nl.length + (e.vsP path).length ≤ 1000000 → acc.length + (e.vsP path).length ≤ 1000000 → path.length + e.dpt ≤ 1000000 → ∀ w, Vth W0 nb qb pb mb mx gb B1 w nl acc path →
    Calls Try.prog 35 #[.agg e.cells.toArray, .pointer (some ⟨nb, 0, none⟩), .pointer (some ⟨qb, 0, none⟩), .pointer (some ⟨pb, 0, none⟩), .pointer (some ⟨mx, 0, none⟩), .pointer (some ⟨gb, 0, none⟩)] w fun r w' => r = .returned (.tuple #[]) ∧ Vth W0 nb qb pb mb mx gb B1 w' (nl ++ (e.vsP path).map fun a => sV a.1) (acc ++ (e.vsP path).map fun a => a.2) path := by
  obtain ⟨i0, hi0, hz0, hz1, hz2⟩ := partsI
  obtain ⟨iS, hiS, hzS0, hzS1, hzS2⟩ := partsS
  obtain ⟨iP, hiP, hzP0, hzP1, hzP2⟩ := partsIs
  replace hc := Lib.hid hc
  intro e
  induction e using Ex.ind with
  | h e ih =>
    intro he hfu nl acc path hacn hacc hpath w hw
    obtain ⟨A, cap, hav, hcap, hlen, hA⟩ := he.exs.head
    have hX := Lib.hid (show ExsHas W0 (.slice A e.args.length cap) e.args by rw [← hav]; exact he.exs)
    have hcs : e.cells.toArray = #[.int .i64 e.kind, .int .i64 e.at_, .int .i64 e.n, sV e.name, .slice A e.args.length cap] := by rw [← hav]; rfl
    rw [hcs]
    clear hcs
    obtain ⟨L, hL⟩ : ∃ L, e.args.length = L := ⟨_, rfl⟩
    have hLh := Lib.hid hL
    rw [hL] at hcap hlen hX hav ⊢
    clear hL hav
    obtain ⟨k, hk⟩ : ∃ k, e.kind = k := ⟨_, rfl⟩
    obtain ⟨n, hn⟩ : ∃ k, e.n = k := ⟨_, rfl⟩
    obtain ⟨at_, hat⟩ : ∃ k, e.at_ = k := ⟨_, rfl⟩
    obtain ⟨nm, hnm⟩ : ∃ k, e.name = k := ⟨_, rfl⟩
    rw [hk, hn, hat, hnm]
    obtain ⟨TT, hTT⟩ : ∃ TT, e.vsP path = TT := ⟨_, rfl⟩
    rw [hTT] at hacc hacn ⊢
    obtain ⟨TN, hTN⟩ : ∃ TN : List Value, TT.map (fun a => sV a.1) = TN := ⟨_, rfl⟩
    obtain ⟨TP, hTP⟩ : ∃ TP : List (List Int), TT.map (fun a => a.2) = TP := ⟨_, rfl⟩
    rw [hTN, hTP]
    replace hTT := Lib.hid hTT
    replace hTN := Lib.hid hTN
    replace hTP := Lib.hid hTP
    replace hk := Lib.hid hk
    replace hnm := Lib.hid hnm
    clear hat hn
    have hd1 : path.length + 1 ≤ 1000000 := by cases e; simp only [Ex.dpt] at hpath; omega
    replace hpath := Lib.hid hpath
    replace hfu := Lib.hid hfu
    replace he := Lib.hid he
    go_enter Try.func35, Try.ntmps35
    go_upto_region 1 with (fail)
    obtain ⟨W1, hW1⟩ : ∃ W1, w.alloc (Obj.cells #[.int .i64 k, .int .i64 at_, .int .i64 n, sV nm, .slice A L cap] 24) = W1 := ⟨_, rfl⟩
    have n1 : Nb w W1 := by rw [← hW1]; exact (Nb.refl w).alloc _
    have bV : W1.heap[w.heap.size]? = some (.cells #[.int .i64 k, .int .i64 at_, .int .i64 n, sV nm, .slice A L cap] 24 (0, 0)) := by rw [← hW1]; exact new_blk _ _ rfl
    rw [hW1]
    clear hW1
    obtain ⟨V, hV⟩ : ∃ V, w.heap.size = V := ⟨_, rfl⟩
    have hVB : B1 ≤ V := by have := hw.sz; omega
    rw [hV] at bV ⊢
    have h1 := hw.go n1
    clear hV hw n1
    have z0 := cell_of_row _ _ 0 _ _ _ bV
    have z3 := cell_of_row _ _ 3 _ _ _ bV
    have z4 := cell_of_row _ _ 4 _ _ _ bV
    by_cases k4 : k = 4
    · have hT := hTT.out
      rw [vsP_var (hk.out.trans k4), hnm.out] at hT
      have hTNn : [sV nm] = TN := by rw [← hTN.out, ← hT]; rfl
      have hTPp : [path] = TP := by rw [← hTP.out, ← hT]; rfl
      have hl1 : nl.length + 1 ≤ 1000000 := by rw [← hT] at hacn; simpa using hacn
      have hl2 : acc.length + 1 ≤ 1000000 := by rw [← hT] at hacc; simpa using hacc
      subst hTNn hTPp k4
      clear hT hTT hTN hTP hacc hacn
      obtain ⟨nv, qv, X, pv, a1, a2, a3, a4, a5, a6, a7⟩ := h1.row.rows
      obtain ⟨nB, nc, rfl⟩ := own_slice a2
      have n0 := cell_of_row _ _ 0 _ _ _ a1
      have hraw := Lib.hid (show VRaw B1 nb qb pb W1 nl acc path (.slice nB nl.length nc) qv pv X from ⟨a1, a2, a3, a4, a5, a6, a7⟩)
      have hsz := h1.sz
      have hnB : nb < B1 := by have := hc.out.n; have := hc.out.b; omega
      replace h1 := Lib.hid h1
      clear a3 a4 a5 a6 a7 z4
      go_upto_region 3 with (fail)
      go_upto_region 4 with (at_builtin; go_loud (refine wpList_append_own _ rfl (.tmp 17) (.tmp 20) 25 rfl B1 9 iS (.string ⟨#[]⟩) 1 16 Try.underlying25 hiS hzS0 hzS1 hzS2 rfl (by decide) (.slice nB nl.length nc) nl.length nl rfl (World.ownsRow.alloc a2 (Obj.cells #[sV nm] 9)) ⟨W1.heap.size, 0, none⟩ 1 1 [sV nm] rfl rfl ?c1 ?c2 ?c3 ?c4 ?c5 ?_))
      case c1 => exact news1 W1 (sV nm) _
      case c2 => intro u hu; rw [List.mem_singleton.1 hu]; rfl
      case c3 => unfold maxLen; omega
      case c4 => omega
      case c5 => simp; omega
      intro v3 w3 o3 g3 _
      obtain ⟨B3, c3, rfl⟩ := own_slice o3
      have bA3 := grown_blk g3 (old_blk a1 (Obj.cells #[sV nm] 9)) (own_low (a2.alloc (Obj.cells #[sV nm] 9)) hnB)
      have k3 : w3.cell? ⟨nb, 0, none⟩ = some (.slice nB nl.length nc) := cell_of_row _ _ 0 _ _ _ bA3
      have f3 : w3.frozen? ⟨nb, 0, none⟩ = false := frozen_blk bA3 0
      have h4 : Hid (Vth W0 nb qb pb mb mx gb B1 (w3.setCell ⟨nb, 0, none⟩ (.slice B3 (nl.length + 1) c3)) (nl ++ [sV nm]) acc path) := Lib.hid (Vth.name hc.out (h1.out.go (alloc_nb' W1 (Obj.cells #[sV nm] 9))) (VRaw.go hraw.out (alloc_nb' W1 (Obj.cells #[sV nm] 9))) o3 g3)
      clear o3 g3 bA3 a1 a2 n0 hraw h1 z0 z3 bV
      go_upto_region 4 with (fail)
      obtain ⟨W4, hW4⟩ : ∃ W4, w3.setCell ⟨nb, 0, none⟩ (.slice B3 (nl.length + 1) c3) = W4 := ⟨_, rfl⟩
      rw [hW4] at h4 ⊢
      clear hW4 k3 f3
      obtain ⟨nv, qv, X, pv, a1, a2, a3, a4, a5, a6, a7⟩ := h4.out.row.rows
      obtain ⟨qB, qc, rfl⟩ := own_slice a4
      have hraw := Lib.hid (show VRaw B1 nb qb pb W4 (nl ++ [sV nm]) acc path nv (.slice qB acc.length qc) pv X from ⟨a1, a2, a3, a4, a5, a6, a7⟩)
      have hsz4 := h4.out.sz
      have hqB : qb < B1 ∧ pb < B1 ∧ qb ≠ pb := by obtain ⟨_, _, _, _, _, _, _⟩ := hc.out; omega
      have cQ := Lib.hid (cell_of_row _ _ 0 _ _ _ a3)
      have oP := Lib.hid a6
      have oQ := Lib.hid a4
      have bQ := Lib.hid a3
      have bP := Lib.hid a5
      clear a1 a2 a3 a4 a5 a6 a7
      have hF : Nb W4 W4.drew := drew1P (Nb.refl W4)
      have hG : W4.drew.heap[pb]? = some (.cells #[pv] 26 (0, 0)) := hF.block bP.out
      refine wp_region_late [4, 5] (fun w' => Nb W4 w') (fun w' => w'.heap[pb]? = some (.cells #[pv] 26 (0, 0))) (by kernel_rfl) ⟨fun _ => hF, hG⟩ (fun _ => ?_)
      change wpAnyL _ _ _ _ _ _ _ 6 (List.toArray [false, false, false, false, false, false]) _ _
      refine takeF_l (i := 0) (v := .slice qB acc.length qc) rfl (by kernel_rfl) (by kernel_rfl) (by kernel_rfl) (by kernel_rfl) (by kernel_rfl) (by rfl) (fun _ _ _ h => h) (.inl ⟨by rfl, by intro w' hw; have hc : w'.cell? ⟨qb, 0, none⟩ = some (.slice qB acc.length qc) := hw.1.cell cQ.out; go_simp⟩) ⟨fun _ => hF, hG⟩ ?_
      simp only [Act.put, List.setIfInBounds_toArray, List.set_cons_zero, List.set_cons_succ]
      refine takeG_l (i := 1) (v := pv) rfl (by kernel_rfl) (by kernel_rfl) (by kernel_rfl) (by rfl) (fun _ _ _ h => h) (.inl ⟨by rfl, by intro w' hw; have hc : w'.cell? ⟨pb, 0, none⟩ = some pv := cell_of_row _ _ 0 _ _ _ hw; go_simp⟩) ⟨fun _ => hF, hG⟩ ?_
      simp only [Act.put, List.setIfInBounds_toArray, List.set_cons_zero, List.set_cons_succ]
      generalize W4.drew = Wd at hF hG ⊢
      refine onlyL_l (i := 2) (by kernel_rfl) rfl (by rfl) (fun K hK => ?_)
      go_simp
      refine (clone_any Wd.heap.size pv path Wd (own_intR (oP.out.kept (nb_grown hF) (none_or _))) (by omega) (Nat.le_refl _)).mono ?_
      rintro r w5 ⟨cv, rfl, n5, oC⟩
      obtain ⟨cB, cc, rfl⟩ := own_slice oC
      have oPd := oP.out.kept (nb_grown hF) (none_or _)
      have hoff : (Value.slice cB path.length cc).ownBlock = none ∨ (Value.slice cB path.length cc).ownBlock ≠ pv.ownBlock := by
        cases hq : (Value.slice cB path.length cc).ownBlock with
        | none => exact .inl rfl
        | some g =>
          refine .inr fun e => ?_
          have h1 := (oC.lt g hq).1
          have h2 := (oPd.lt g e.symm).2
          omega
      replace oC := own_mono oC (Nat.le_trans hsz4 hF.size)
      replace hoff := Lib.hid hoff
      clear oPd
      replace hF := hF.trans n5
      replace hG := n5.block hG
      refine hK.out _ _ ⟨fun _ => hF, hG⟩ (fun _ => ?_)
      clear hK K
      simp only [Act.put, List.setIfInBounds_toArray, List.set_cons_zero, List.set_cons_succ]
      refine onlyL_l (i := 3) (by kernel_rfl) rfl (by rfl) (fun K hK => ?_)
      go_simp
      refine hK.out _ _ ⟨fun _ => hF.alloc _, old_blk hG _⟩ (fun _ => ?_)
      clear hK K
      simp only [Act.put, List.setIfInBounds_toArray, List.set_cons_zero, List.set_cons_succ]
      have oC2 := oC.alloc (Obj.cells #[.slice cB path.length cc] 26)
      have bN : (w5.alloc (Obj.cells #[.slice cB path.length cc] 26)).heap[w5.heap.size]? = some (.cells #[.slice cB path.length cc] 26 (0, 0)) := new_blk _ _ rfl
      replace hF := hF.alloc (Obj.cells #[.slice cB path.length cc] 26)
      replace hG := old_blk hG (Obj.cells #[.slice cB path.length cc] 26)
      generalize w5.alloc (Obj.cells #[.slice cB path.length cc] 26) = w6 at hF hG oC2 bN ⊢
      refine onlyL_l (i := 4) (by kernel_rfl) rfl (by rfl) (fun K hK => ?_)
      refine wp_append_own w6 (.tmp 22) (.tmp 25) 35 rfl B1 26 iP _ 1 24 Try.underlying35 hiP hzP0 hzP1 hzP2 rfl (by decide) (.slice qB acc.length qc) acc.length X rfl (oQ.out.kept (nb_grown hF) (none_or _)) ⟨w5.heap.size, 0, none⟩ 1 1 [.slice cB path.length cc] rfl rfl ?c1 ?c2 ?c3 ?c4 ?c5 ?_
      case c1 => exact fun j u hu => by rw [Addr.add_mid, Nat.zero_add, cell_of_row _ _ _ _ _ _ bN]; simpa using hu
      case c2 => intro u hu; rw [List.mem_singleton.1 hu]; rfl
      case c3 => unfold maxLen; omega
      case c4 => omega
      case c5 => have := hF.size; omega
      intro v7 w7 o7 g7 _
      have oQ6 := oQ.out.kept (nb_grown hF) (none_or _)
      have bQ7 := grown_blk g7 (hF.block bQ.out) (own_low oQ6 hqB.1)
      have hG7 := grown_blk g7 hG (own_low oQ6 hqB.2.1)
      refine hK.out _ _ ⟨fun h => absurd (h 4 (by decide)) (by decide), hG7⟩ (fun _ => ?_)
      clear hK K
      simp only [Act.put, List.setIfInBounds_toArray, List.set_cons_zero, List.set_cons_succ]
      obtain ⟨B7, c7, rfl⟩ := own_slice o7
      refine onlyL_l (i := 5) (by kernel_rfl) rfl (by rfl) (fun K hK => ?_)
      have hc7 : w7.cell? ⟨qb, 0, none⟩ = some (.slice qB acc.length qc) := cell_of_row _ _ 0 _ _ _ bQ7
      have hf7 : w7.frozen? ⟨qb, 0, none⟩ = false := frozen_blk bQ7 0
      have hG8 : (w7.setCell ⟨qb, 0, none⟩ (.slice B7 (acc.length + 1) c7)).heap[pb]? = some (.cells #[pv] 26 (0, 0)) := (heap_setCell_other _ _ _ _ (by simpa using Ne.symm hqB.2.2)).trans hG7
      go_simp
      refine hK.out _ _ ⟨fun h => absurd (h 4 (by decide)) (by decide), hG8⟩ (fun _ => ?_)
      clear hK K hc7 hf7
      simp only [Act.put, List.setIfInBounds_toArray, List.set_cons_zero, List.set_cons_succ]
      refine doneL (by kernel_rfl) ?_ _
      have hfin : Hid (Vth W0 nb qb pb mb mx gb B1 (w7.setCell ⟨qb, 0, none⟩ (.slice B7 (acc.length + 1) c7)) (nl ++ [sV nm]) (acc ++ [path]) path) := Lib.hid (Vth.path hc.out (h4.out.go hF) (VRaw.go hraw.out hF) oC2 hoff.out o7 g7)
      clear oC oC2 bN hF hG o7 g7 oQ6 bQ7 hG7 hG8 n5 hraw h4
      go_wp2_with fail
      go_end0
      exact ⟨rfl, hfin.out⟩
    · by_cases k5 : k = 5
      · have hT := hTT.out
        rw [vsP_tup (hk.out.trans k5)] at hT
        obtain ⟨hpos, hkids⟩ := full_tup hfu.out (hk.out.trans k5)
        have hL0 : 0 < L := by
          rw [← hLh.out]
          cases h : e.args with
          | nil => rw [h] at hpos; simp [Ex.vsL] at hpos
          | cons x l => simp
        have hTl : 0 < TT.length := by
          rw [← hT, vsL_len e.args (fun x _ => vsP_len x) path [] 0 0]
          exact hpos
        obtain ⟨x0, hx0⟩ : ∃ x, e.args[0]? = some x := ⟨_, List.getElem?_eq_getElem (by rw [hLh.out]; exact hL0)⟩
        obtain ⟨b', o', rfl, -, -⟩ := hX.out.cells_at hx0
        obtain ⟨nv, qv, X, pv, a1, a2, a3, a4, a5, a6, a7⟩ := h1.row.rows
        obtain ⟨nB, nc, rfl⟩ := own_slice a2
        have n0 := cell_of_row _ _ 0 _ _ _ a1
        have m0 := cell_of_row _ _ 0 _ _ _ h1.mbox
        subst k5
        replace h1 := Lib.hid h1
        replace hT := Lib.hid hT
        replace hkids := Lib.hid hkids
        replace hpos := Lib.hid hpos
        clear hx0 a2 a3 a4 a5 a6 a7
        go_upto_region 6 with (fail)
        obtain ⟨y4, y5⟩ := And.intro z4 n0
        have hG : Nb W1 W1.drew := drew1P (Nb.refl W1)
        refine wp_region_late [] (fun _ => True) (fun w' => Nb W1 w') (by kernel_rfl) ⟨fun _ => trivial, hG⟩ (fun _ => ?_)
        change wpAnyL _ _ _ _ _ _ _ 8 (List.toArray [false, false, false, false, false, false, false, false]) _ _
        refine takeG_l (i := 0) (v := .pointer (some ⟨V, 4, none⟩)) rfl (by kernel_rfl) (by kernel_rfl) (by kernel_rfl) (by rfl) (fun _ _ _ h => h) (.inl ⟨by rfl, by intro w' hw; go_simp⟩) ⟨fun _ => trivial, hG⟩ ?_
        simp only [Act.put, List.setIfInBounds_toArray, List.set_cons_zero, List.set_cons_succ]
        refine takeG_l (i := 1) (v := .slice (some ⟨b', o', none⟩) L cap) rfl (by kernel_rfl) (by kernel_rfl) (by kernel_rfl) (by rfl) (fun _ _ _ h => h) (.inl ⟨by rfl, by intro w' hw; have hc : w'.cell? ⟨V, 4, none⟩ = some (.slice (some ⟨b', o', none⟩) L cap) := hw.cell z4; go_simp⟩) ⟨fun _ => trivial, hG⟩ ?_
        simp only [Act.put, List.setIfInBounds_toArray, List.set_cons_zero, List.set_cons_succ]
        refine takeG_l (i := 3) (v := .slice nB nl.length nc) rfl (by kernel_rfl) (by kernel_rfl) (by kernel_rfl) (by rfl) (fun _ _ _ h => h) (.inl ⟨by rfl, by intro w' hw; have hc : w'.cell? ⟨nb, 0, none⟩ = some (.slice nB nl.length nc) := hw.cell n0; go_simp⟩) ⟨fun _ => trivial, hG⟩ ?_
        simp only [Act.put, List.setIfInBounds_toArray, List.set_cons_zero, List.set_cons_succ]
        refine takeG_l (i := 4) (v := .int .i64 (nl.length : Int)) rfl (by kernel_rfl) (by kernel_rfl) (by kernel_rfl) (by rfl) (fun _ _ _ h => h) (.inl ⟨by rfl, by intro w' hw; go_simp⟩) ⟨fun _ => trivial, hG⟩ ?_
        simp only [Act.put, List.setIfInBounds_toArray, List.set_cons_zero, List.set_cons_succ]
        generalize W1.drew = Wd at hG ⊢
        refine twoL_l (i := 2) (j := 5) (by kernel_rfl) rfl rfl (by rfl) (by rfl) (fun K hK => ?ba) (fun K hK => ?bb)
        case' ba =>
          go_simp
          refine (listOfP b' o' L cap Wd hL0).mono ?_
          rintro r w5 ⟨rfl, n5⟩
          replace hG := hG.trans n5
          refine hK.out _ _ ⟨fun _ => trivial, hG⟩ (fun _ => ?_)
          clear hK K
          simp only [Act.put, List.setIfInBounds_toArray, List.set_cons_zero, List.set_cons_succ]
          refine onlyL_l (i := 5) (by kernel_rfl) rfl (by rfl) (fun K hK => ?_)
          go_simp
          refine hK.out _ _ ⟨fun _ => trivial, hG.alloc _⟩ (fun _ => ?_)
          clear hK K
          simp only [Act.put, List.setIfInBounds_toArray, List.set_cons_zero, List.set_cons_succ]
          have bN : (w5.alloc (Obj.cells #[.pointer none, .int .i64 0] 89)).heap[w5.heap.size]? = some (.cells #[.pointer none, .int .i64 0] 89 (0, 0)) := new_blk _ _ rfl
          have hgW : W1.heap.size ≤ w5.heap.size := hG.size
          replace hG := hG.alloc (Obj.cells #[.pointer none, .int .i64 0] 89)
          generalize w5.alloc (Obj.cells #[.pointer none, .int .i64 0] 89) = w6 at hG bN ⊢
          obtain ⟨g, hg⟩ : ∃ g, w5.heap.size = g := ⟨_, rfl⟩
          rw [hg] at bN hgW ⊢
          clear hg
        case' bb =>
          go_simp
          refine hK.out _ _ ⟨fun _ => trivial, hG.alloc _⟩ (fun _ => ?_)
          clear hK K
          simp only [Act.put, List.setIfInBounds_toArray, List.set_cons_zero, List.set_cons_succ]
          have bN : (Wd.alloc (Obj.cells #[.pointer none, .int .i64 0] 89)).heap[Wd.heap.size]? = some (.cells #[.pointer none, .int .i64 0] 89 (0, 0)) := new_blk _ _ rfl
          have hgW : W1.heap.size ≤ Wd.heap.size := hG.size
          replace hG := hG.alloc (Obj.cells #[.pointer none, .int .i64 0] 89)
          generalize Wd.alloc (Obj.cells #[.pointer none, .int .i64 0] 89) = w5 at hG bN ⊢
          obtain ⟨g, hg⟩ : ∃ g, Wd.heap.size = g := ⟨_, rfl⟩
          rw [hg] at bN hgW ⊢
          clear hg
          refine onlyL_l (i := 2) (by kernel_rfl) rfl (by rfl) (fun K hK => ?_)
          go_simp
          refine (listOfP b' o' L cap w5 hL0).mono ?_
          rintro r w6 ⟨rfl, n5⟩
          replace hG := hG.trans n5
          replace bN := n5.block bN
          refine hK.out _ _ ⟨fun _ => trivial, hG⟩ (fun _ => ?_)
          clear hK K
          simp only [Act.put, List.setIfInBounds_toArray, List.set_cons_zero, List.set_cons_succ]
        all_goals
          refine onlyL_l (i := 6) (by kernel_rfl) rfl (by rfl) (fun K hK => ?_)
          have s0 : w6.cell? ⟨g, 0, none⟩ = some (.pointer none) := cell_of_row _ _ 0 _ _ _ bN
          have s1 : w6.cell? ⟨g, 1, none⟩ = some (.int .i64 0) := cell_of_row _ _ 1 _ _ _ bN
          have f0 : w6.frozen? ⟨g, 0, none⟩ = false := frozen_blk bN 0
          have f1 : w6.frozen? ⟨g, 1, none⟩ = false := frozen_blk bN 1
          go_simp
          have hG8 : Nb W1 ((w6.setCell ⟨g, 0, none⟩ (.pointer (some ⟨b', o', none⟩))).setCell ⟨g, 1, none⟩ (.int .i64 (L : Int))) := (hG.setCell (p := ⟨g, 0, none⟩) hgW _).setCell (p := ⟨g, 1, none⟩) hgW _
          have bG := set2P (x := .pointer (some ⟨b', o', none⟩)) (y := .int .i64 (L : Int)) bN
          refine hK.out _ _ ⟨fun _ => trivial, hG8⟩ (fun _ => ?_)
          clear hK K s0 s1 f0 f1 hG bN
          simp only [Act.put, List.setIfInBounds_toArray, List.set_cons_zero, List.set_cons_succ]
          generalize (w6.setCell ⟨g, 0, none⟩ (.pointer (some ⟨b', o', none⟩))).setCell ⟨g, 1, none⟩ (.int .i64 (L : Int)) = w8 at hG8 bG ⊢
          have hG := hG8
          refine takeG_l (i := 7) (v := .int .i64 (nl.length : Int)) rfl (by kernel_rfl) (by kernel_rfl) (by kernel_rfl) (by rfl) (fun _ _ _ h => h) (.inl ⟨by rfl, by intro w' hw; go_simp⟩) ⟨fun _ => trivial, hG⟩ ?_
          simp only [Act.put, List.setIfInBounds_toArray, List.set_cons_zero, List.set_cons_succ]
          refine doneL (by kernel_rfl) ?_ _
          have h8 := h1.out.go hG8
          have m8 := cell_of_row _ _ 0 _ _ _ h8.mbox
          have g0 := cell_of_row _ _ 0 _ _ _ bG
          have g1 := cell_of_row _ _ 1 _ _ _ bG
          have hmap := Lib.hid h8.map
          have bV8 := hG8.block bV
          replace h8 := Lib.hid h8
          clear h1 hG hG8
          go_upto_region 7 with (fail)
          go_upto_region 8 with (refine wpList_look_none rfl (.tmp 35) (.tmp 36) rfl hmap.out rfl rfl ?_)
          obtain ⟨W9, hW9⟩ : ∃ W9, w8.alloc (Obj.cells #[] 91) = W9 := ⟨_, rfl⟩
          have n9 : Nb w8 W9 := by rw [← hW9]; exact (Nb.refl w8).alloc _
          rw [hW9]
          obtain ⟨S9, hS9⟩ : ∃ S, w8.heap.size = S := ⟨_, rfl⟩
          rw [hS9]
          have bV9 := n9.block bV8
          replace z4 := cell_of_row _ _ 4 _ _ _ bV9
          have h9 := Lib.hid (h8.out.go n9)
          clear z0 z3 hW9 hS9 n9 bV8 h8 hmap m8 m0 g0 g1 y4 y5 a1 n0 bG bV bV9
          go_wp2_with fail
          have hR0 : Hid (∃ (ml : List Value) (ac : List (List Int)), Vth W0 nb qb pb mb mx gb B1 W9 ml ac path ∧ ml ++ (Ex.vsL path 0 (e.args.drop 0)).map (fun a => sV a.1) = nl ++ TN ∧ ac ++ (Ex.vsL path 0 (e.args.drop 0)).map (fun a => a.2) = acc ++ TP) := Lib.hid ⟨nl, acc, h9.out, by rw [List.drop_zero, hT.out, hTN.out], by rw [List.drop_zero, hT.out, hTP.out]⟩
          go_loopw [44] (fun si wr => ∃ i : Nat, i ≤ L ∧ si = .int .i64 i ∧ Hid (∃ (ml : List Value) (ac : List (List Int)), Vth W0 nb qb pb mb mx gb B1 wr ml ac path ∧ ml ++ (Ex.vsL path i (e.args.drop i)).map (fun a => sV a.1) = nl ++ TN ∧ ac ++ (Ex.vsL path i (e.args.drop i)).map (fun a => a.2) = acc ++ TP)) (fun si _ => L - (intOf si).toNat)
          case atStart => exact ⟨0, Nat.zero_le _, rfl, hR0⟩
          case round =>
            obtain ⟨i, hi, rfl, hR⟩ := hrel
            clear hR0
            by_cases hlt : i < L
            · have hlt2 : (i : Int) < (L : Int) := by omega
              obtain ⟨x, hx⟩ : ∃ x, e.args[i]? = some x := ⟨_, List.getElem?_eq_getElem (by rw [hLh.out]; exact hlt)⟩
              obtain ⟨b'', o'', hbo, ⟨y0, y1, y2, y3, y4⟩, hxh⟩ := hX.out.cells_at hx
              simp only [Option.some.injEq, Addr.mk.injEq, and_true] at hbo
              obtain ⟨rfl, rfl⟩ := hbo
              obtain ⟨ml, ac, hg, hml, hac⟩ := hR.out
              have hdp := dpt_mem (List.mem_of_getElem? hx)
              have hp1 : (path ++ [(i : Int)]).length = path.length + 1 := by simp
              rw [vsL_step hx, List.map_append] at hml hac
              have hlens := congrArg List.length hml
              have hlens2 := congrArg List.length hac
              have hTNl : TN.length = TT.length := by rw [← hTN.out]; simp
              have hTPl : TP.length = TT.length := by rw [← hTP.out]; simp
              simp only [List.length_append, List.length_map] at hlens hlens2
              have hih := Lib.hid (ih x (List.mem_of_getElem? hx) hxh (hkids.out x (List.mem_of_getElem? hx)) ml ac (path ++ [(i : Int)]) (by omega) (by omega) (by have := hpath.out; omega))
              replace y0 := hg.nb0.cell y0
              replace y1 := hg.nb0.cell y1
              replace y2 := hg.nb0.cell y2
              replace y3 := hg.nb0.cell y3
              replace y4 := hg.nb0.cell y4
              obtain ⟨Ax, cx, hax, -, -, -⟩ := hxh.exs.head
              obtain ⟨Lx, hLx⟩ : ∃ Lx, x.args.length = Lx := ⟨_, rfl⟩
              rw [hLx] at hax
              clear hLx
              have hcx : x.cells.toArray = #[.int .i64 x.kind, .int .i64 x.at_, .int .i64 x.n, sV x.name, .slice Ax Lx cx] := by rw [← hax]; rfl
              rw [hcx] at hih
              rw [hax] at y4
              clear hax hcx
              obtain ⟨xs, hxs⟩ : ∃ xs, x.vsP (path ++ [(i : Int)]) = xs := ⟨_, rfl⟩
              rw [hxs] at hih hml hac
              obtain ⟨xn, hxn⟩ : ∃ xn : List Value, xs.map (fun a => sV a.1) = xn := ⟨_, rfl⟩
              obtain ⟨xp, hxp⟩ : ∃ xp : List (List Int), xs.map (fun a => a.2) = xp := ⟨_, rfl⟩
              rw [hxn] at hih hml
              rw [hxp] at hih hac
              have hRn : Hid ((ml ++ xn) ++ (Ex.vsL path (i + 1) (e.args.drop (i + 1))).map (fun a => sV a.1) = nl ++ TN ∧ (ac ++ xp) ++ (Ex.vsL path (i + 1) (e.args.drop (i + 1))).map (fun a => a.2) = acc ++ TP) := Lib.hid ⟨by rw [← hml, List.append_assoc], by rw [← hac, List.append_assoc]⟩
              clear hR hac hml hlens hlens2 hx hxh hdp hxs hxn hxp hTNl hTPl
              go_upto_region 12 with (fail)
              obtain ⟨W5, hW5⟩ : ∃ W5, wr.alloc (Obj.cells #[.int .i64 x.kind, .int .i64 x.at_, .int .i64 x.n, sV x.name, .slice Ax Lx cx] 24) = W5 := ⟨_, rfl⟩
              have n5 : Nb wr W5 := by rw [← hW5]; exact (Nb.refl wr).alloc _
              have b5 : W5.heap[wr.heap.size]? = some (.cells #[.int .i64 x.kind, .int .i64 x.at_, .int .i64 x.n, sV x.name, .slice Ax Lx cx] 24 (0, 0)) := by rw [← hW5]; exact new_blk _ _ rfl
              rw [hW5]
              clear hW5 y0 y1 y2 y3 y4
              obtain ⟨Y, hY⟩ : ∃ Y, wr.heap.size = Y := ⟨_, rfl⟩
              rw [hY] at b5 ⊢
              have hYB : B1 ≤ Y := by have := hg.sz; omega
              clear hY
              have h5 := hg.go n5
              clear hg n5
              obtain ⟨nv', qv', X', pv', q1, q2, q3, q4, q5, q6, q7⟩ := h5.row.rows
              obtain ⟨B, c, rfl⟩ := own_slice q6
              obtain ⟨pn, hpn⟩ : ∃ pn, path.length = pn := ⟨_, rfl⟩
              have hd2 : pn + 1 ≤ 1000000 := by omega
              have hraw := Lib.hid (show VRaw B1 nb qb pb W5 ml ac path nv' qv' (.slice B path.length c) X' from ⟨q1, q2, q3, q4, q5, q6, q7⟩)
              have bP := q5
              have oP := q6
              rw [hpn] at bP oP
              replace hpn := Lib.hid hpn
              have p0 := cell_of_row _ _ 0 _ _ _ bP
              have n6 : Nb W5 (W5.alloc (Obj.cells #[.int .i64 (i : Int)] 3)) := (Nb.refl W5).alloc _
              have hpB : pb < B1 ∧ pb ≠ Y := by obtain ⟨_, _, _, _, _, _, _⟩ := hc.out; omega
              obtain ⟨g', c', w9, hrun, o9, g9, hwh⟩ := append_where (P := Try.prog) (W5.alloc (Obj.cells #[.int .i64 (i : Int)] 3)) B1 26 26 3 i0 (.int .i64 0) 1 8 Try.underlying26 hi0 hz0 hz1 hz2 rfl (by decide) (.slice B pn c) pn (iL path) (oP.alloc _) ⟨W5.heap.size, 0, none⟩ 1 1 (by decide) [.int .i64 (i : Int)] rfl (news1 W5 _ _) (by intro u hu; rw [List.mem_singleton.1 hu]; rfl) (by unfold maxLen; omega) (by omega) (by have := h5.sz; have := n6.size; omega)
              have bP9 := grown_blk g9 (old_blk bP (Obj.cells #[.int .i64 (i : Int)] 3)) (own_low (oP.alloc (Obj.cells #[.int .i64 (i : Int)] 3)) hpB.1)
              have b9 := grown_blk g9 (old_blk b5 (Obj.cells #[.int .i64 (i : Int)] 3)) (row_ne (oP.alloc (Obj.cells #[.int .i64 (i : Int)] 3)) (old_blk b5 (Obj.cells #[.int .i64 (i : Int)] 3)) (by decide))
              have p9 : w9.cell? ⟨pb, 0, none⟩ = some (.slice B pn c) := cell_of_row _ _ 0 _ _ _ bP9
              have f9 : w9.frozen? ⟨pb, 0, none⟩ = false := frozen_blk bP9 0
              replace hrun := Lib.hid hrun
              have h9 : Hid (Vth W0 nb qb pb mb mx gb B1 (w9.setCell ⟨pb, 0, none⟩ (.slice (some ⟨g', 0, none⟩) (pn + 1) c')) ml ac (path ++ [(i : Int)]) ∧ (w9.setCell ⟨pb, 0, none⟩ (.slice (some ⟨g', 0, none⟩) (pn + 1) c')).heap[Y]? = some (.cells #[.int .i64 x.kind, .int .i64 x.at_, .int .i64 x.n, sV x.name, .slice Ax Lx cx] 24 (0, 0))) := by
                have g9p := g9
                have hwp := hwh
                rw [← hpn.out] at g9p hwp
                have gr := Vth.push (i := (i : Int)) hc.out (h5.go n6) (VRaw.go hraw.out n6) (by rw [hpn.out]; exact o9) g9p hwp
                rw [hpn.out] at gr
                refine Lib.hid ⟨gr, ?_⟩
                rw [heap_setCell_other _ _ _ _ (by simpa using Ne.symm hpB.2)]
                exact b9
              clear hraw o9 g9 hwh n6 bP oP q1 q2 q3 q4 q5 q6 q7 h5 bP9 b9 b5
              go_upto_region 13 with (at_builtin; refine Lib.wpList_append_run _ rfl (.tmp 49) (.tmp 51) 26 26 rfl (.slice B pn c) (.slice (some ⟨W5.heap.size, 0, none⟩) 1 1) rfl rfl _ _ hrun.out ?_)
              obtain ⟨W7, hW7⟩ : ∃ W7, w9.setCell ⟨pb, 0, none⟩ (.slice (some ⟨g', 0, none⟩) (pn + 1) c') = W7 := ⟨_, rfl⟩
              rw [hW7] at h9 ⊢
              clear hW7 hrun p9 f9 p0
              obtain ⟨h9, b9⟩ := h9.out
              have hcall := Lib.hid (hih.out W7 h9)
              have qg := cell_of_row _ _ 0 _ _ _ h9.gbox
              have v0 := cell_of_row _ _ 0 _ _ _ b9
              have v1 := cell_of_row _ _ 1 _ _ _ b9
              have v2 := cell_of_row _ _ 2 _ _ _ b9
              have v3 := cell_of_row _ _ 3 _ _ _ b9
              have v4 := cell_of_row _ _ 4 _ _ _ b9
              clear h9 b9 hih
              go_upto_region 14 with (go_at_call 35; refine (hcall.out).mono ?_; rintro r w8 ⟨rfl, h8⟩)
              clear v0 v1 v2 v3 v4 qg hcall
              obtain ⟨nv', qv', X', pv', q1, q2, q3, q4, q5, q6, q7⟩ := h8.row.rows
              rw [hp1] at q6
              obtain ⟨g8, c8, rfl, hc8⟩ := own_some q6 (by omega)
              have hil : iL (path ++ [(i : Int)]) = iL path ++ [.int .i64 (i : Int)] := by simp [iL]
              rw [hil] at q6
              have hfin := Lib.hid (Vth.pop hc.out h8 ⟨q1, q2, q3, q4, q5, q6, q7⟩)
              rw [hpn.out] at q5 hfin hc8
              have p8 : w8.cell? ⟨pb, 0, none⟩ = some (.slice (some ⟨g8, 0, none⟩) (pn + 1) c8) := cell_of_row _ _ 0 _ _ _ q5
              have f8 : w8.frozen? ⟨pb, 0, none⟩ = false := frozen_blk q5 0
              obtain ⟨q, hq⟩ : ∃ q, pn + 1 = q := ⟨_, rfl⟩
              rw [hq] at p8 hc8
              have hc0 : ¬ c8 = 0 := by omega
              have hwr : IntKind.i64.wrap ((q : Int) - 1) = (pn : Int) := by rw [IntKind.wrap_i64]; omega
              have hpc : pn ≤ c8 := by omega
              have hpc2 : (pn : Int) ≤ (c8 : Int) := by omega
              clear hq hc8 q1 q2 q3 q4 q5 q6 q7 h8 hil
              go_wp2_with fail
              exact ⟨⟨i + 1, by omega, by simp, Lib.hid ⟨_, _, hfin.out, hRn.out.1, hRn.out.2⟩⟩, by simp [intOf] <;> omega⟩
            · obtain rfl : i = L := by omega
              obtain ⟨ml, ac, hg, hml, hac⟩ := hR.out
              rw [List.drop_eq_nil_of_le (by rw [hLh.out]; exact Nat.le_refl _), Ex.vsL, List.map_nil, List.append_nil] at hml hac
              subst hml hac
              obtain ⟨nv', qv', X', pv', q1, q2, -, -, -, -, -⟩ := hg.row.rows
              obtain ⟨B', c', rfl⟩ := own_slice q2
              obtain ⟨M, hM⟩ : ∃ M, (nl ++ TN).length = M := ⟨_, rfl⟩
              have hTNl : TN.length = TT.length := by rw [← hTN.out]; simp
              have hne : ¬ (M : Int) = (nl.length : Int) := by rw [← hM, List.length_append]; omega
              rw [hM] at q1
              have u0 := cell_of_row _ _ 0 _ _ _ q1
              replace hg := Lib.hid hg
              clear hR q1 q2 hM hTNl
              go_wp2_with fail
              go_end0
              exact ⟨rfl, hg.out⟩
      · have hT := hTT.out
        rw [vsP_other (fun q => k4 (hk.out.symm.trans q)) (fun q => k5 (hk.out.symm.trans q))] at hT
        have hTNn : [] = TN := by rw [← hTN.out, ← hT]; rfl
        have hTPp : [] = TP := by rw [← hTP.out, ← hT]; rfl
        subst hTNn hTPp
        replace h1 := Lib.hid h1
        clear bV hT hTN hTP
        go_wp2_with fail
        go_end0
        exact ⟨rfl, by rw [List.append_nil, List.append_nil]; exact h1.out⟩
end Go.Proofs.Ytchcfjlkgnlnoaa
