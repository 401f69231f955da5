/-
  Proved here: addresses: where the labels stand. Conditions: where the draft lies.
-/
import Derived.Test.YtnooabgdcfegeaaDoorSbh
namespace Go.Proofs.YtnooabgdcfegeaaDoor
open Go.RowKit Go.Shelf Go.ChangeMaps
set_option linter.unusedVariables false
set_option linter.unusedSimpArgs false
set_option maxRecDepth 100000
set_option maxHeartbeats 8000000
attribute [local go_sem] Oper.semAt_some
/-- What is told of a place: a label stands there. -/
def stS (is : List Itm) (f : Bs → Option Int) (x : Nat × Int) : Bs → Option Int := match is[x.1]? with
  | some i => if i.1 = 2 then updF f i.2.2.1 x.2 else f
  | none => f
def stL (is : List Itm) (xs : List (Nat × Int)) : Bs → Option Int := xs.foldl (stS is) (fun _ => none)
theorem stL_snoc (is : List Itm) (xs : List (Nat × Int)) (x : Nat × Int) : stL is (xs ++ [x]) = stS is (stL is xs) x := by unfold stL; rw [List.foldl_append]; rfl
theorem smapu_own (B mb : Nat) (hm : mb < B) {β : Type} (F : β → Bs → Option Int) : OwnFrom B (fun (s : β) W => SMapu W mb (F s)) := fun s W W' row hs hg hr => hs.kept fun o ho =>
  (hg.block mb (Array.getElem?_eq_some_iff.1 ho).1 (fun e => by have := (hr _ e.symm).1; omega)).trans ho
theorem blk_own (B k : Nat) (hm : k < B) (o : Obj) {β : Type} : OwnFrom B (fun (_ : β) W => W.heap[k]? = some o) := fun s W W' row hs hg hr =>
  (hg.block k (Array.getElem?_eq_some_iff.1 hs).1 (fun e => by have := (hr _ e.symm).1; omega)).trans hs
theorem addresses_any (it : Option Addr) (b off cap g c2 : Nat) (base : Int) (hb0 : 0 ≤ base) (hb1 : base ≤ 1073741824) (is : List Itm) (fs : List Bool) (hit : is ≠ [] → it = some ⟨b, off, none⟩) (hfs : fs.length = is.length) (hcap : is.length ≤ cap) (hc2 : is.length ≤ c2) (hl : is.length ≤ 100000) (hv : ∀ i ∈ is, 0 ≤ i.2.2.2 ∧ i.2.2.2 < 18446744073709551616 ∧ ImOk i.2.1)
    (ob og : Obj) (w : World) (hob : w.heap[b]? = some ob) (hog : w.heap[g]? = some og) (hI : ItAt w b off is) (hF : FlAt w g fs) :
    Calls Tryd.prog 35 #[drV it is.length cap base g c2] w fun r w' => ∃ mb, r = .returned (.map (some mb)) ∧ Nb w w' ∧ SMapu w' mb (stL is (plcL base (is.zip fs))) ∧ w.heap.size ≤ mb := by
  have hmm := @run_makeMap Tryd.prog
  have hpl := places_any it is.length cap g c2 base
  unfold drV at hpl ⊢
  have hbl : b < w.heap.size := lt_bkc hob
  have hgl : g < w.heap.size := lt_bkc hog
  refine (callsIn_wide (n := 1)).1 ?_
  refine callsIn_of_wp_marks Tryd.func35 rfl trivial ?_ rfl
  simp only [Tryd.ntmps35, List.size_toArray, List.length_cons, List.length_nil, Nat.reduceAdd, Nat.reduceSub, Array.replicate_succ, Array.replicate_zero, List.push_toArray, List.append_toArray, List.nil_append, List.cons_append]
  refine wpIn_wide.2 ?_
  have hplh := Lib.hid hpl
  have hith := Lib.hid hit
  have hvh := Lib.hid hv
  have hfh := Lib.hid hfs
  have hIh := Lib.hid hI
  have hFh := Lib.hid hF
  clear hpl hit hv hfs hI hF
  go_upto_region 1 with (fail)
  obtain ⟨W1, hW1⟩ : ∃ W1, w.alloc (.cells #[.slice it is.length cap, .int .u64 base, .slice (some ⟨g, 0, none⟩) is.length c2] 48) = W1 := ⟨_, rfl⟩
  have n1 : Nb w W1 := by rw [← hW1]; exact Below.alloc (Below.refl _ _) (Nat.le_refl _) _
  have b1 : W1.heap[w.heap.size]? = some (.cells #[.slice it is.length cap, .int .u64 base, .slice (some ⟨g, 0, none⟩) is.length c2] 48 (0, 0)) := by rw [← hW1]; exact new_bkc _ _ rfl
  rw [hW1]
  clear hW1
  go_upto_region 2 with (fail)
  obtain ⟨MB, hMB⟩ : ∃ MB, W1.heap.size = MB := ⟨_, rfl⟩
  have hwm : w.heap.size ≤ MB := by rw [← hMB]; exact n1.size
  have hwl : w.heap.size < MB := by rw [← hMB]; exact lt_bkc b1
  obtain ⟨W3, hW3⟩ : ∃ W3, (W1.alloc (.map #[] 0)).alloc (.cells #[.map (some W1.heap.size)] 79) = W3 := ⟨_, rfl⟩
  have zA : (W1.alloc (.map #[] 0)).heap.size = MB + 1 := by rw [World.size_alloc, hMB]
  have n3 : Nb W1 W3 := by rw [← hW3]; exact ((Nb.refl W1).alloc _).alloc _
  have m3 : SMapu W3 MB (stL is []) := by
    rw [← hW3]
    refine SMapu.kept (w := W1.alloc (.map #[] 0)) ?_ (fun o ho => (Below.heap_alloc _ _ _ (Array.getElem?_eq_some_iff.1 ho).1).trans ho)
    rw [← hMB]; exact SMapu.made W1
  have s3 : W3.heap[MB + 1]? = some (.cells #[.map (some MB)] 79 (0, 0)) := by rw [← hW3, ← zA, hMB]; exact new_bkc _ _ rfl
  rw [hW3, hMB]
  clear hW3 zA hmm
  have n13 := n1.trans n3
  replace b1 := n3.block b1
  clear n3 hMB
  have c0 := cell_of_row _ _ 0 _ _ _ b1
  have c1 := cell_of_row _ _ 1 _ _ _ b1
  have c2' := cell_of_row _ _ 2 _ _ _ b1
  go_upto_region 3 with (go_at_call 36; refine (hplh.out W3).mono ?_; rintro r w' ⟨rfl, rfl⟩)
  obtain ⟨W4, hW4⟩ : ∃ W4, W3.alloc (.cells #[.slice it is.length cap, .int .u64 base, .slice (some ⟨g, 0, none⟩) is.length c2] 48) = W4 := ⟨_, rfl⟩
  have n4 : Nb W3 W4 := by rw [← hW4]; exact Below.alloc (Below.refl _ _) (Nat.le_refl _) _
  have b4 : W4.heap[W3.heap.size]? = some (.cells #[.slice it is.length cap, .int .u64 base, .slice (some ⟨g, 0, none⟩) is.length c2] 48 (0, 0)) := by rw [← hW4]; exact new_bkc _ _ rfl
  rw [hW4]
  clear hW4
  obtain ⟨DB, hDB⟩ : ∃ DB, W3.heap.size = DB := ⟨_, rfl⟩
  rw [hDB] at b4 ⊢
  have hDB4 : DB < W4.heap.size := lt_bkc b4
  have hS4 : MB + 1 < W4.heap.size := lt_bkc (n4.block s3)
  have hMD : MB + 1 < DB := by rw [← hDB]; exact lt_bkc s3
  replace m3 := m3.nb n4
  replace s3 := n4.block s3
  replace b1 := n4.block b1
  have nW : Nb w W4 := n13.trans n4
  clear n13 n4 c0 c1 c2' hDB hplh
  refine (wpIn_wide (n := 1)).1 ?_
  refine range_plainO (F := Fence.wide) (n := 1) rfl (Nat.le_refl 1) (gf := 60) (lb := #[.pointer (some ⟨DB, 0, none⟩)]) rfl trivial (enters_of Tryd.func60 (by kernel_rfl) rfl)
    (plc_seq (Kn w.heap.size (fun _ => false) (fun k => k = MB ∨ k = W4.heap.size + 1)) Kn.refl (fun h k => Kn.trans h k) (fun h => Kn.of_nb h) 0 DB it b off cap g c2 base hb0 hb1 is fs hith.out hfh.out hcap hc2 hl hvh.out ob og (fun _ _ h => h.low hbl) (fun _ _ h => h.low hgl) (fun _ _ h hA => h.block (by rintro (h | h) <;> omega) hA rfl) W4 (nW.block hob) (nW.block hog) b4 (hIh.out.nb nW) (hFh.out.nb nW))
    (fun h k => Kn.trans h k) (fun W o _ => Kn.of_nb (Below.alloc (Below.refl _ _) (Nat.le_refl _) _)) (fun W o o' _ => Kn.putObj W _ _ (.inr rfl) (by omega)) (Below.refl _ _) (fun _ => rfl)
    (fun (xs : List (PlV is.length)) W => SMapu W MB (stL is (xs.map (·.1))) ∧ W.heap[MB + 1]? = some (.cells #[.map (some MB)] 79 (0, 0)) ∧ W.heap[w.heap.size]? = some (.cells #[.slice it is.length cap, .int .u64 base, .slice (some ⟨g, 0, none⟩) is.length c2] 48 (0, 0)) ∧ Below w.heap.size w W)
    (fun _ _ _ => False)
    (OwnFrom.and (smapu_own W4.heap.size MB (by omega) (fun xs : List (PlV is.length) => stL is (xs.map (·.1)))) (OwnFrom.and (blk_own W4.heap.size (MB + 1) hS4 _) (OwnFrom.and (blk_own W4.heap.size w.heap.size (by omega) _) (ownFrom_below (Nat.le_refl _) (by omega)))))
    (fun _ _ _ _ _ hs _ _ => hs)
    ⟨m3, s3, b1, nW⟩
    (fun x => { tmps := #[.agg #[.slice it is.length cap, .int .u64 base, .slice (some ⟨g, 0, none⟩) is.length c2], .pointer (some ⟨w.heap.size, 0, none⟩), .map none, .pointer (some ⟨MB + 1, 0, none⟩), .int .i64 x.1.1, .int .u64 x.1.2, undef, .map (some MB), .agg #[.slice it is.length cap, .int .u64 base, .slice (some ⟨g, 0, none⟩) is.length c2], .func (.func 60) #[] #[.pointer (some ⟨DB, 0, none⟩)], .int .i64 x.1.1, .int .u64 x.1.2, undef, undef, undef, undef, undef, undef, undef, undef, undef, undef, undef, undef, undef], defers := [] }) ?assign ?body ?done ?stop
  case assign =>
    rintro l2 x W K hK
    gi_wp2
    simpa using hK
  case body =>
    rintro l2 pre2 ⟨⟨k, at_⟩, hk, ha0, ha1⟩ W hBl - ⟨hm, hs, hd, hB⟩ hlen2
    simp only [] at hk ha0 ha1 ⊢
    obtain ⟨i, hi⟩ : ∃ i, is[k]? = some i := ⟨_, List.getElem?_eq_getElem hk⟩
    have hP := fun j u hu => (hIh.out.nb hB) k i hi j u hu
    obtain rfl := hith.out (by rintro rfl; simp at hk)
    have hst : stL is ((pre2 ++ [(⟨(k, at_), hk, ha0, ha1⟩ : PlV is.length)]).map (·.1)) = if i.1 = 2 then updF (stL is (pre2.map (·.1))) i.2.2.1 at_ else stL is (pre2.map (·.1)) := by
      rw [List.map_append]
      show stL is (_ ++ [(k, at_)]) = _
      rw [stL_snoc]
      show (match is[k]? with | some i => if i.1 = 2 then updF _ i.2.2.1 at_ else _ | none => _) = _
      rw [hi]
    replace hst := Lib.hid hst
    obtain ⟨kd, ⟨o1, o2, o3, o4, o5, o6, o7⟩, nm, v⟩ := i
    have p0 : W.cell? ⟨b, off + k * 10, none⟩ = some (.int .i64 kd) := hP 0 _ rfl
    have p1 : W.cell? ⟨b, off + k * 10 + 1, none⟩ = some (.int .i64 o1) := hP 1 _ rfl
    have p2 : W.cell? ⟨b, off + k * 10 + 2, none⟩ = some (.int .i64 o2) := hP 2 _ rfl
    have p3 : W.cell? ⟨b, off + k * 10 + 3, none⟩ = some (.int .i64 o3) := hP 3 _ rfl
    have p4 : W.cell? ⟨b, off + k * 10 + 4, none⟩ = some (.int .i64 o4) := hP 4 _ rfl
    have p5 : W.cell? ⟨b, off + k * 10 + 5, none⟩ = some (.int .i64 o5) := hP 5 _ rfl
    have p6 : W.cell? ⟨b, off + k * 10 + 6, none⟩ = some (.bool o6) := hP 6 _ rfl
    have p7 : W.cell? ⟨b, off + k * 10 + 7, none⟩ = some (.bool o7) := hP 7 _ rfl
    have p8 : W.cell? ⟨b, off + k * 10 + 8, none⟩ = some (.string nm) := hP 8 _ rfl
    have p9 : W.cell? ⟨b, off + k * 10 + 9, none⟩ = some (.int .u64 v) := hP 9 _ rfl
    have hb1' : (0 : Int) ≤ (k : Int) := by omega
    have hb2' : (k : Int) < (is.length : Int) := by omega
    have q0 := cell_of_row _ _ 0 _ _ _ hd
    have q1 := cell_of_row _ _ 0 _ _ _ hs
    clear hP hi
    have hKm : ∀ V V' : World, Below w.heap.size w V → V.grownBy V' (some MB) → Below w.heap.size w V' := fun V V' h hg => Below.grown h hg h.size (fun r e => by cases e; omega)
    have hlS : MB + 1 < W.heap.size := lt_bkc hs
    have hlD : w.heap.size < W.heap.size := lt_bkc hd
    have nA : Nb W (W.alloc (.cells #[.int .i64 kd, .int .i64 o1, .int .i64 o2, .int .i64 o3, .int .i64 o4, .int .i64 o5, .bool o6, .bool o7, .string nm, .int .u64 v] 39)) := Below.alloc (Below.refl _ _) (Nat.le_refl _) _
    have hlS2 := Nat.lt_of_lt_of_le hlS nA.size
    cases h2 : (kd == 2)
    · have hst2 := hst.out
      rw [if_neg (by simpa using h2)] at hst2
      replace hst2 := Lib.hid hst2
      clear hst
      gi_wp2_with (fail)
      exact ⟨⟨nA.size, fun j o hj hA hc' => nA.block hA⟩, Kn.of_nb nA, by rw [hst2.out]; exact hm.nb nA, nA.block hs, nA.block hd, hB.trans (Below.alloc (Below.refl _ _) hB.size _)⟩
    · have hst2 := hst.out
      rw [if_pos (by simpa using h2)] at hst2
      replace hst2 := Lib.hid hst2
      clear hst
      gi_wp2_with (gi_at_mapUpdate; refine wpListIn_put_su rfl (.tmp 20) (.tmp 22) (.tmp 23) rfl (hm.nb nA) (n := at_) rfl rfl rfl ?_; intro w5 hm5 hg5)
      have hk5 : ∀ j o, j ≠ MB → W.heap[j]? = some o → w5.heap[j]? = some o := fun j o hj hA => (hg5.block j (Nat.lt_of_lt_of_le (Array.getElem?_eq_some_iff.1 hA).1 nA.size) (fun e => hj (by simpa using e))).trans (nA.block hA)
      exact ⟨⟨Nat.le_trans nA.size hg5.size, fun j o hj hA hc' => hk5 j o (by omega) hA⟩, ⟨Nat.le_trans nA.size hg5.size, fun j o hA hj => hk5 j o (fun e => hj.elim (fun h => by omega) (fun h => h.1 (.inl e))) hA⟩, by rw [hst2.out]; exact hm5, hk5 _ _ (by omega) hs, hk5 _ _ (by omega) hd, hKm _ _ (hB.trans (Below.alloc (Below.refl _ _) hB.size _)) hg5⟩
  case done =>
    rintro D xs V hD hxs ⟨hm, hs, hd, hB⟩ hK
    have c0 := cell_of_row _ _ 0 _ _ _ hs
    rw [hxs] at hm
    gi_wp2
    go_wp2_with fail
    refine ⟨by simp, .inl ⟨_, _, rfl, run_takeDeferred hK, ?_⟩⟩
    exact ⟨_, results_tmp rfl _ _ _, MB, rfl, hB.trans (belowK_b (w := w) (Nat.le_refl _) V D _ _ (by omega) hK rfl rfl), hm.kept (fun o ho => (World.putObj_heap_other (by omega)).trans ho), hwm⟩
  case stop =>
    rintro D c pre2 V _ _ h _
    exact h.elim
end Go.Proofs.YtnooabgdcfegeaaDoor
