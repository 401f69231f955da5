/-
  Proved here: Assemble, where lengthened is known. Conditions: where the items lie; the table of codes holds what its text lays; what lengthened answers.
-/
import Derived.Test.YtnooabgdcfegeaaDoorSbq
namespace Go.Proofs.YtnooabgdcfegeaaDoor
open Go.RowKit Go.Shelf Go.ChangeMaps
set_option linter.unusedVariables false
set_option linter.unusedSimpArgs false
set_option maxRecDepth 100000
set_option maxHeartbeats 8000000
attribute [local go_sem] Oper.semAt_some
theorem info_bool : (Tryd.prog.info? 4).map (fun i => (i.zero, i.size, i.bytes)) = some (some (.bool false), 1, 1) := by kernel_rfl
theorem parts_bool : ∃ i, Tryd.prog.info? 4 = some i ∧ i.zero = some (.bool false) ∧ i.size = 1 ∧ i.bytes = 1 := by
  obtain ⟨i0, hi, h⟩ := Option.map_eq_some_iff.1 info_bool
  exact ⟨i0, hi, congrArg (·.1) h, congrArg (·.2.1) h, congrArg (·.2.2) h⟩
def flO (fs : List Bool) : Obj := .cells (fs.map Value.bool).toArray 4 (0, 0)
theorem fl_at {w : World} {g : Nat} {fs : List Bool} (h : w.heap[g]? = some (flO fs)) : FlAt w g fs := fun k f hk => by
  rw [cell_of_row _ _ _ _ _ _ h, List.getElem?_toArray, List.getElem?_map, hk]
  rfl
theorem fl_rep (n : Nat) : flO (List.replicate n false) = .cells (Array.replicate n (.bool false)) 4 (0, 0) := by
  unfold flO
  congr 1
  apply Array.ext'
  simp
theorem cells_false (n : Nat) : madeCells (Value.bool false).cells (n * 1) = Array.replicate n (.bool false) := by
  apply Array.ext'
  rw [show (Value.bool false).cells = #[.bool false] from rfl, toList_madeCells_one]
  simp
theorem wpList_make_bool {P : Program} (w : World) {ops : Array Oper} {rest : List Oper} {o : Oper} {a : Act} {Q : Exit → Act → World → Prop}
    (hg : o.guard = none) (l c : Operand) (t : TypeId) (hop : o.op = Op.makeSlice t l c)
    (e : TypeId) (i : TypeInfo) (h1 : P.underlying t = some (.slice e)) (h2 : P.info? e = some i) (h3 : i.zero = some (.bool false)) (h4 : i.size = 1) (h5 : i.bytes = 1)
    (kl kc : IntKind) (L C : Int) (n : Nat) (hl : a.eval l = .int kl L) (hc : a.eval c = .int kc C) (hL : L = (n : Int)) (hC : C = (n : Int)) (b2 : n ≤ 281474976710656)
    (hK : wpList P ops Q rest (a.put o.dst (.slice (some ⟨w.heap.size, 0, none⟩) n n)) (w.alloc (.cells (Array.replicate n (.bool false)) e))) :
    wpList P ops Q (o :: rest) a w := by
  refine wpList_plain hg fun K hK' => ?_
  subst hL
  subst hC
  have hr := run_make (P := P) w t e i (.bool false) h1 h2 h3 kl kc n n (by omega) (Int.le_refl _) (by rw [h5]; omega) (by omega)
  rw [h4] at hr
  simp only [Int.toNat_natCast] at hr
  rw [cells_false] at hr
  unfold Oper.wp
  simp [execOp, hop, hl, hc, hr, Result.andThen]
  exact hK' _ _ hK
theorem row_mono {w : World} {base b' : Nat} {e : TypeId} {sz k : Nat} {s : Value} {xs : List Value} (h : w.ownsRow base e sz s k xs) (hb : b' ≤ base) : w.ownsRow b' e sz s k xs := by
  refine ⟨h.1, ?_⟩
  rcases h.2 with h' | ⟨g, cap, cur, hs, hbg, h'⟩
  · exact .inl h'
  · exact .inr ⟨g, cap, cur, hs, Nat.le_trans hb hbg, h'⟩
theorem ItAt.obj {w : World} {b off : Nat} {is : List Itm} (h : ItAt w b off is) (hn : is ≠ []) : ∃ o, w.heap[b]? = some o := by
  have h0 : 0 < is.length := List.length_pos_iff.2 hn
  have hc := h 0 _ (List.getElem?_eq_getElem h0) 0 _ rfl
  unfold World.cell? at hc
  cases hb : w.heap[b]? with
  | some o => exact ⟨o, rfl⟩
  | none =>
    rw [show w.heap[({ block := b, off := off + 0 * 10 + 0 } : Addr).block]? = none from hb] at hc
    cases hc
theorem stL_rng (is : List Itm) (xs : List (Nat × Int)) (hx : ∀ x ∈ xs, 0 ≤ x.2 ∧ x.2 < 18446744073709551616) (nm : Bs) : 0 ≤ (stL is xs nm).getD 0 ∧ (stL is xs nm).getD 0 < 18446744073709551616 := by
  have h : ∀ (xs : List (Nat × Int)) (f : Bs → Option Int), (∀ nm, 0 ≤ (f nm).getD 0 ∧ (f nm).getD 0 < 18446744073709551616) → (∀ x ∈ xs, 0 ≤ x.2 ∧ x.2 < 18446744073709551616) → ∀ nm, 0 ≤ (xs.foldl (stS is) f nm).getD 0 ∧ (xs.foldl (stS is) f nm).getD 0 < 18446744073709551616 := by
    intro xs
    induction xs with
    | nil => intro f hf _ nm; exact hf nm
    | cons x r ih =>
      intro f hf hx nm
      refine ih _ ?_ (fun y hy => hx y (List.mem_cons_of_mem _ hy)) nm
      intro t
      unfold stS
      cases hi : is[x.1]? with
      | none => exact hf t
      | some i =>
        show 0 ≤ ((if i.1 = 2 then updF f i.2.2.1 x.2 else f) t).getD 0 ∧ ((if i.1 = 2 then updF f i.2.2.1 x.2 else f) t).getD 0 < 18446744073709551616
        by_cases h2 : i.1 = 2
        · rw [if_pos h2]
          by_cases e : i.2.2.1 = t
          · subst e; rw [updF_self]; exact hx x List.mem_cons_self
          · rw [updF_ne e]; exact hf t
        · rw [if_neg h2]; exact hf t
  exact h xs _ (fun _ => ⟨by simp, by simp⟩) hx nm
theorem plc_rng (base : Int) (ps : List (Itm × Bool)) (h0 : 0 ≤ base) (h1 : base ≤ 1073741824) (hl : ps.length ≤ 100000) : ∀ x ∈ plcL base ps, 0 ≤ x.2 ∧ x.2 < 18446744073709551616 := by
  intro x hx
  unfold plcL at hx
  obtain ⟨k, hk, rfl⟩ := List.mem_map.1 hx
  have := wSum_le (ps.take k)
  rw [List.length_take] at this
  simp only []
  omega
/-- What Assemble answers, by the flags that lengthened has set. -/
def AsmAns (is : List Itm) (base : Int) (fs : List Bool) (w : World) (r : Ending) (w' : World) : Prop :=
  (wrongI is base ≠ 0 ∧ r = .returned (.tuple #[.slice none 0 0, .slice none 0 0, .int .i64 (wrongI is base)]) ∧ Nb w w') ∨
  (wrongI is base = 0 ∧ (65536 < wSum (is.zip (List.replicate is.length false)) ∨ 65536 < wSum (is.zip fs)) ∧ r = .returned (.tuple #[.slice none 0 0, .slice none 0 0, .int .i64 200]) ∧ Nb w w') ∨
  (wrongI is base = 0 ∧ ¬ 65536 < wSum (is.zip (List.replicate is.length false)) ∧ ¬ 65536 < wSum (is.zip fs) ∧ WdAns (inL is fs (stL is (plcL base (is.zip fs))) (plcL base (is.zip fs))) (lbL is (plcL base (is.zip fs))) w r w')
theorem assemble_any (it : Option Addr) (b off cap : Nat) (base : Int) (hb0 : 0 ≤ base) (hb1 : base < 18446744073709551616) (is : List Itm) (hit : is ≠ [] → it = some ⟨b, off, none⟩) (hcap : is.length ≤ cap) (hl : is.length ≤ 100000) (hv : ∀ i ∈ is, 0 ≤ i.2.2.2 ∧ i.2.2.2 < 18446744073709551616 ∧ ImOk i.2.1)
    (w : World) (hC : Cod w) (hI : ItAt w b off is) (fs : List Bool) (hfs : fs.length = is.length)
    (hlen : base ≤ 1073741824 → ∀ (g : Nat) (V : World), Below w.heap.size w V → w.heap.size ≤ g → V.heap[g]? = some (flO (List.replicate is.length false)) →
      Calls Tryd.prog 14 #[drV it is.length cap base g is.length] V fun r w' => r = .returned (drV it is.length cap base g is.length) ∧ w'.heap[g]? = some (flO fs) ∧ Below w.heap.size w w' ∧ Kq (fun _ => false) (fun k => k = g) V w') :
    Calls Tryd.prog 7 #[.slice it is.length cap, .int .u64 base] w (AsmAns is base fs w) := by
  obtain ⟨ib, hib, hz0, hz1, hz2⟩ := parts_bool
  have hwr := wrong_any it b off cap is base hb0 hb1 hit hcap hl (fun i hi => (hv i hi).2.2) w hC hI
  unfold AsmAns
  obtain ⟨WR, hWR⟩ : ∃ WR, wrongI is base = WR := ⟨_, rfl⟩
  rw [hWR] at hwr ⊢
  by_cases hw0 : WR = 0
  case neg =>
    have e1 : (WR == 0) = false := beq_false_of_ne hw0
    have e2 : (WR != 0) = true := by rw [bne, e1]; rfl
    replace hwr := Lib.hid hwr
    have hw0h := Lib.hid hw0
    clear hit hv hI hfs hlen hWR hw0
    go_enter Tryd.func7, Tryd.ntmps7
    go_wp2_with (go_at_call 12; refine hwr.out.mono ?_; rintro r w2 ⟨rfl, hn2⟩)
    go_ret3
    exact .inl ⟨hw0h.out, rfl, hn2⟩
  have hbb : base ≤ 1073741824 := by
    unfold wrongI at hWR
    rw [hw0] at hWR
    split at hWR
    · cases hWR
    · split at hWR
      · cases hWR
      · omega
  subst hw0
  have hpick : ∀ (V : World) (g : Nat) (og : Obj), Below w.heap.size w V → V.heap[g]? = some og → ∃ b' off' ob', (is ≠ [] → it = some ⟨b', off', none⟩) ∧ V.heap[b']? = some ob' ∧ ItAt V b' off' is := by
    intro V g og hV hg
    by_cases hn : is = []
    · subst hn
      exact ⟨g, 0, og, fun h => absurd rfl h, hg, fun k i hi => by simp at hi⟩
    · have hI2 : ItAt V b off is := hI.nb hV
      obtain ⟨ob, h1⟩ := hI2.obj hn
      exact ⟨b, off, ob, hit, h1, hI2⟩
  have hsize : ∀ (V : World) (g : Nat) (gs : List Bool), gs.length = is.length → Below w.heap.size w V → V.heap[g]? = some (flO gs) → Calls Tryd.prog 13 #[drV it is.length cap base g is.length] V fun r w' => r = .returned (.int .i64 (wSum (is.zip gs))) ∧ Nb V w' := by
    intro V g gs hgs hV hg
    obtain ⟨b', off', ob', h1, h2, h4⟩ := hpick V g _ hV hg
    exact size_any it b' off' cap g is.length base is gs h1 hgs hcap (Nat.le_refl _) hl hv V h4 (fl_at hg)
  have hwords : ∀ (V : World) (g : Nat), Below w.heap.size w V → V.heap[g]? = some (flO fs) → Calls Tryd.prog 15 #[drV it is.length cap base g is.length] V (WdAns (inL is fs (stL is (plcL base (is.zip fs))) (plcL base (is.zip fs))) (lbL is (plcL base (is.zip fs))) V) := by
    intro V g hV hg
    obtain ⟨b', off', ob', h1, h2, h4⟩ := hpick V g _ hV hg
    have hzl : (is.zip fs).length ≤ 100000 := by rw [List.length_zip]; omega
    exact words_any it b' off' cap g is.length base hb0 hbb is fs h1 hfs hcap (Nat.le_refl _) hl hv ob' _ V (hC.of_nb hV) h2 hg h4 (fl_at hg) (fun nm => stL_rng is _ (plc_rng base _ hb0 hbb hzl) nm)
  have hlen' := hlen hbb
  unfold drV at hsize hwords hlen'
  generalize inL is fs (stL is (plcL base (is.zip fs))) (plcL base (is.zip fs)) = IL at hwords ⊢
  generalize lbL is (plcL base (is.zip fs)) = LL at hwords ⊢
  have hs0 := fun V g hV hg => hsize V g (List.replicate is.length false) (by simp) hV hg
  have hs1 := fun V g hV hg => hsize V g fs hfs hV hg
  have hle0 := wSum_le (is.zip (List.replicate is.length false))
  have hle1 := wSum_le (is.zip fs)
  rw [List.length_zip] at hle0 hle1
  generalize wSum (is.zip (List.replicate is.length false)) = S0 at hs0 hle0 ⊢
  generalize wSum (is.zip fs) = S1 at hs1 hle1 ⊢
  replace hs0 := Lib.hid hs0
  replace hs1 := Lib.hid hs1
  replace hwords := Lib.hid hwords
  replace hlen' := Lib.hid hlen'
  replace hwr := Lib.hid hwr
  clear hit hv hI hfs hlen hWR hpick hsize
  obtain ⟨n, hn⟩ : ∃ n, is.length = n := ⟨_, rfl⟩
  rw [hn] at hs0 hs1 hwords hlen' hwr hcap hl hle0 hle1 ⊢
  clear hn
  go_enter Tryd.func7, Tryd.ntmps7
  go_upto_region 4 with (go_at_call 12; refine hwr.out.mono ?_; rintro r w2 ⟨rfl, hn2⟩)
  go_upto_region 5 with (refine wpList_make_bool _ rfl _ _ 46 rfl 4 ib Tryd.underlying46 hib hz0 hz1 hz2 .i64 .i64 _ _ n rfl rfl rfl rfl (by omega) ?_)
  obtain ⟨g, hg⟩ : ∃ g, w2.heap.size = g := ⟨_, rfl⟩
  have hwg : w.heap.size ≤ g := by rw [← hg]; exact hn2.size
  obtain ⟨V0, hV0⟩ : ∃ V0, (w2.alloc (Obj.cells (Array.replicate n (Value.bool false)) 4)).alloc (.cells #[.slice it n cap, .int .u64 base, .slice (some ⟨w2.heap.size, 0, none⟩) n n] 48) = V0 := ⟨_, rfl⟩
  have zA : (w2.alloc (Obj.cells (Array.replicate n (Value.bool false)) 4)).heap.size = g + 1 := by rw [World.size_alloc, hg]
  have n0 : Nb w V0 := by rw [← hV0]; exact hn2.trans (((Nb.refl w2).alloc _).alloc _)
  have g0 : V0.heap[g]? = some (flO (List.replicate n false)) := by
    rw [← hV0, fl_rep]
    exact (Below.heap_alloc _ _ _ (by rw [zA]; omega)).trans (by rw [← hg]; exact World.alloc_heap_new w2 _)
  have d0 : V0.heap[g + 1]? = some (.cells #[.slice it n cap, .int .u64 base, .slice (some ⟨g, 0, none⟩) n n] 48 (0, 0)) := by rw [← hV0, ← zA, hg]; exact new_bkc _ _ rfl
  rw [hV0, hg]
  clear hV0 zA hg hn2 hwr
  have c0 := cell_of_row _ _ 0 _ _ _ d0
  have c1 := cell_of_row _ _ 1 _ _ _ d0
  have c2 := cell_of_row _ _ 2 _ _ _ d0
  have hA := Lib.hid (hs0.out V0 g n0 g0)
  by_cases hS0 : 65536 < S0
  case pos =>
    have e1 : decide ((S0 : Int) > 65536) = true := by simp; omega
    go_wp2_with (go_at_call 13; refine hA.out.mono ?_; rintro r w3 ⟨rfl, hn3⟩)
    go_ret3
    exact .inr (.inl ⟨trivial, .inl hS0, rfl, n0.trans hn3⟩)
  have e1 : decide ((S0 : Int) > 65536) = false := by simp; omega
  have hS0h := Lib.hid hS0
  clear hS0
  go_upto_region 6 with (go_at_call 13; refine hA.out.mono ?_; rintro r w3 ⟨rfl, hn3⟩)
  have n3 : Below w.heap.size w w3 := n0.trans hn3
  have g3 := hn3.block g0
  have d3 := hn3.block d0
  clear hA g0 d0 c0 c1 c2 n0 hn3 e1
  have c0 := cell_of_row _ _ 0 _ _ _ d3
  have c1 := cell_of_row _ _ 1 _ _ _ d3
  have c2 := cell_of_row _ _ 2 _ _ _ d3
  have hB := Lib.hid (hlen'.out g w3 n3 hwg g3)
  by_cases hS1 : 65536 < S1
  case pos =>
    have e1 : decide ((S1 : Int) > 65536) = true := by simp; omega
    go_wp2_with (first | (go_at_call 14; refine hB.out.mono ?_; rintro r w4 ⟨rfl, g4, n4, k4⟩; have hD := hs1.out w4 g n4 g4) | (go_at_call 13; refine hD.mono ?_; rintro r w5 ⟨rfl, hn5⟩))
    go_ret3
    exact .inr (.inl ⟨trivial, .inr hS1, rfl, n4.trans (hn5.mono n4.size)⟩)
  have e1 : decide ((S1 : Int) > 65536) = false := by simp; omega
  have hS1h := Lib.hid hS1
  clear hS1
  go_upto_region 8 with (first | (go_at_call 14; refine hB.out.mono ?_; rintro r w4 ⟨rfl, g4, n4, k4⟩; have hD := hs1.out w4 g n4 g4) | (go_at_call 13; refine hD.mono ?_; rintro r w5 ⟨rfl, hn5⟩))
  have g5 := hn5.block g4
  have d5 := hn5.block (k4.block (by omega) d3 rfl)
  have n5 : Below w.heap.size w w5 := n4.trans (hn5.mono n4.size)
  clear c0 c1 c2 hB g4 d3 g3 hD
  have c0 := cell_of_row _ _ 0 _ _ _ d5
  have c1 := cell_of_row _ _ 1 _ _ _ d5
  have c2 := cell_of_row _ _ 2 _ _ _ d5
  have hE := Lib.hid (hwords.out w5 g n5 g5)
  go_wp2_with (go_at_call 15; refine hE.out.mono ?_; rintro r w6 (⟨hall, s, t, rfl, hn6, hr6, ht6⟩ | ⟨hall, rfl, hn6⟩))
  · go_ret3
    exact .inr (.inr ⟨trivial, hS0h.out, hS1h.out, .inl ⟨hall, s, t, rfl, n5.trans (hn6.mono n5.size), row_mono hr6 n5.size, row_mono ht6 n5.size⟩⟩)
  · go_ret3
    exact .inr (.inr ⟨trivial, hS0h.out, hS1h.out, .inr ⟨hall, rfl, n5.trans (hn6.mono n5.size)⟩⟩)
end Go.Proofs.YtnooabgdcfegeaaDoor
