/-
  Proved here: spans: the branches of a draft. Conditions: where the draft lies.
-/
import Derived.Test.YtnooabgdcfegeaaDoorSbi
namespace Go.Proofs.YtnooabgdcfegeaaDoor
open Go.RowKit Go.Shelf Go.ChangeMaps
set_option linter.unusedVariables false
set_option linter.unusedSimpArgs false
set_option maxRecDepth 100000
set_option maxHeartbeats 8000000
attribute [local go_sem] Oper.semAt_some
/-- A branch: its place, where it stands, where its label stands, how far that is. -/
abbrev Sp4 := Nat × Int × Int × Int
def sp4C (p : Sp4) : List Value := [.int .i64 p.1, .int .u64 p.2.1, .int .u64 p.2.2.1, .int .i64 p.2.2.2]
theorem one_sp4 (i : Sp4) : ∀ u ∈ sp4C i, u.oneCell' = true := fun u hu => by
  unfold sp4C at hu
  rcases List.mem_cons.1 hu with rfl | hu; · rfl
  rcases List.mem_cons.1 hu with rfl | hu; · rfl
  rcases List.mem_cons.1 hu with rfl | hu; · rfl
  rcases List.mem_cons.1 hu with rfl | hu; · rfl
  cases hu
theorem info_sp4 : (Tryd.prog.info? 76).map (fun i => (i.zero, i.size, i.bytes)) = some (some (.agg (sp4C (0, 0, 0, 0)).toArray), 4, 32) := by kernel_rfl
theorem parts_sp4 : ∃ i, Tryd.prog.info? 76 = some i ∧ i.zero = some (.agg (sp4C (0, 0, 0, 0)).toArray) ∧ i.size = 4 ∧ i.bytes = 32 := by
  obtain ⟨i0, hi, h⟩ := Option.map_eq_some_iff.1 info_sp4
  exact ⟨i0, hi, congrArg (·.1) h, congrArg (·.2.1) h, congrArg (·.2.2) h⟩
/-- Objects of a type of cells. -/
def XT (ty : TypeId) (o : Obj) : Bool := match o with
  | .cells _ t _ => t == ty
  | _ => false
theorem app_kqT {ty : TypeId} {sz : Nat} {R : Nat → Prop} {W w1 : World} {n₀ k : Nat} {v : Value} {xs : List Value} (hr : W.ownsRow n₀ ty sz v k xs) (hg : W.grownBy w1 v.ownBlock) : Kq (XT ty) R W w1 := by
  refine ⟨hg.size, fun j o hj hA hX => (hg.block j (Array.getElem?_eq_some_iff.1 hA).1 (fun e => ?_)).trans hA⟩
  rcases hr.2 with ⟨rfl, _⟩ | ⟨g, cap, cur, rfl, _, hgb, _⟩
  · simp [Value.ownBlock] at e
  · have e' : j = g := by simpa [Value.ownBlock] using e
    subst e'
    rw [hgb] at hA
    cases hA
    simp [XT] at hX
theorem Kq.set {X : Obj → Bool} {R : Nat → Prop} (W : World) (B : Nat) (v' : Value) (h : R B) : Kq X R W (W.setCell ⟨B, 0, none⟩ v') := ⟨(grownBy_setCell' W B v').size, fun j o hj hA _ => (Below.heap_setCell _ _ _ j (fun e => hj (by rw [e]; exact h))).trans hA⟩
theorem XT_cells {ty : TypeId} {o : Obj} (h : o.isCells = false) : XT ty o = false := by cases o <;> first | rfl | cases h
def spS (is : List Itm) (f : Bs → Option Int) (x : Nat × Int) : List Sp4 := match is[x.1]? with
  | some i => if i.1 = 3 then [(x.1, x.2, (f i.2.2.1).getD 0, farI ((f i.2.2.1).getD 0) x.2)] else []
  | none => []
def spL (is : List Itm) (f : Bs → Option Int) (xs : List (Nat × Int)) : List Sp4 := xs.flatMap (spS is f)
theorem spL_snoc (is : List Itm) (f : Bs → Option Int) (xs : List (Nat × Int)) (x : Nat × Int) : spL is f (xs ++ [x]) = spL is f xs ++ spS is f x := by unfold spL; rw [List.flatMap_append]; simp
theorem spL_len (is : List Itm) (f : Bs → Option Int) (xs : List (Nat × Int)) : (spL is f xs).length ≤ xs.length := by
  induction xs with
  | nil => simp [spL]
  | cons x r ih =>
    have h : (spS is f x).length ≤ 1 := by unfold spS; split; · split <;> simp
                                           · simp
    have e : spL is f (x :: r) = spS is f x ++ spL is f r := by simp [spL]
    rw [e, List.length_append, List.length_cons]; omega
theorem spans_any (it : Option Addr) (b off cap g c2 : Nat) (base : Int) (hb0 : 0 ≤ base) (hb1 : base ≤ 1073741824) (is : List Itm) (fs : List Bool) (hit : is ≠ [] → it = some ⟨b, off, none⟩) (hfs : fs.length = is.length) (hcap : is.length ≤ cap) (hc2 : is.length ≤ c2) (hl : is.length ≤ 100000) (hv : ∀ i ∈ is, 0 ≤ i.2.2.2 ∧ i.2.2.2 < 18446744073709551616 ∧ ImOk i.2.1)
    (ob og : Obj) (w : World) (hob : w.heap[b]? = some ob) (hog : w.heap[g]? = some og) (hI : ItAt w b off is) (hF : FlAt w g fs) :
    Calls Tryd.prog 31 #[drV it is.length cap base g c2] w fun r w' => ∃ s, r = .returned s ∧ Nb w w' ∧ w'.ownsRow w.heap.size 76 4 s (spL is (stL is (plcL base (is.zip fs))) (plcL base (is.zip fs))).length ((spL is (stL is (plcL base (is.zip fs))) (plcL base (is.zip fs))).flatMap sp4C) := by
  have had := addresses_any it b off cap g c2 base hb0 hb1 is fs hit hfs hcap hc2 hl hv ob og
  replace had := fun V (hV : Nb w V) => had V (hV.block hob) (hV.block hog) (hI.nb hV) (hF.nb hV)
  have hpl := places_any it is.length cap g c2 base
  unfold drV at hpl had ⊢
  obtain ⟨i0, hi, hz0, hz1, hz2⟩ := parts_sp4
  have hbl : b < w.heap.size := lt_bkc hob
  have hgl : g < w.heap.size := lt_bkc hog
  obtain ⟨ST, hST⟩ : ∃ ST, stL is (plcL base (is.zip fs)) = ST := ⟨_, rfl⟩
  rw [hST] at had ⊢
  clear hST
  refine (callsIn_wide (n := 1)).1 ?_
  refine callsIn_of_wp_marks Tryd.func31 rfl trivial ?_ rfl
  simp only [Tryd.ntmps31, List.size_toArray, List.length_cons, List.length_nil, Nat.reduceAdd, Nat.reduceSub, Array.replicate_succ, Array.replicate_zero, List.push_toArray, List.append_toArray, List.nil_append, List.cons_append]
  refine wpIn_wide.2 ?_
  have hplh := Lib.hid hpl
  have hadh := Lib.hid had
  have hith := Lib.hid hit
  have hvh := Lib.hid hv
  have hfh := Lib.hid hfs
  have hIh := Lib.hid hI
  have hFh := Lib.hid hF
  clear hpl had hit hv hfs hI hF
  go_upto_region 1 with (fail)
  obtain ⟨W1, hW1⟩ : ∃ W1, w.alloc (.cells #[.slice it is.length cap, .int .u64 base, .slice (some ⟨g, 0, none⟩) is.length c2] 48) = W1 := ⟨_, rfl⟩
  have n1 : Nb w W1 := by rw [← hW1]; exact Below.alloc (Below.refl _ _) (Nat.le_refl _) _
  have b1 : W1.heap[w.heap.size]? = some (.cells #[.slice it is.length cap, .int .u64 base, .slice (some ⟨g, 0, none⟩) is.length c2] 48 (0, 0)) := by rw [← hW1]; exact new_bkc _ _ rfl
  rw [hW1]
  clear hW1
  go_upto_region 2 with (fail)
  obtain ⟨BL, hBL⟩ : ∃ BL, W1.heap.size = BL := ⟨_, rfl⟩
  have hwl : w.heap.size < BL := by rw [← hBL]; exact lt_bkc b1
  obtain ⟨W2, hW2⟩ : ∃ W2, W1.alloc (.cells #[.slice none 0 0] 72) = W2 := ⟨_, rfl⟩
  have n2 : Nb W1 W2 := by rw [← hW2]; exact (Nb.refl W1).alloc _
  have o2 : W2.heap[BL]? = some (.cells #[.slice none 0 0] 72 (0, 0)) := by rw [← hW2, ← hBL]; exact new_bkc _ _ rfl
  rw [hW2, hBL]
  clear hW2 hBL
  have n12 := n1.trans n2
  replace b1 := n2.block b1
  clear n2
  have c0 := cell_of_row _ _ 0 _ _ _ b1
  have c1 := cell_of_row _ _ 1 _ _ _ b1
  have c2' := cell_of_row _ _ 2 _ _ _ b1
  have hA2 := Lib.hid (hadh.out W2 n12)
  go_upto_region 3 with (go_at_call 35; refine hA2.out.mono ?_; rintro r w4 ⟨MB, rfl, n4, m4, hMB⟩)
  clear hA2 hadh
  obtain ⟨BS, hBS⟩ : ∃ BS, w4.heap.size = BS := ⟨_, rfl⟩
  obtain ⟨W5, hW5⟩ : ∃ W5, w4.alloc (.cells #[.map (some MB)] 79) = W5 := ⟨_, rfl⟩
  have hMB4 : MB < w4.heap.size := by obtain ⟨es, ck, h, -⟩ := m4; exact (Array.getElem?_eq_some_iff.1 h).1
  have n5 : Nb w4 W5 := by rw [← hW5]; exact (Nb.refl w4).alloc _
  have s5 : W5.heap[BS]? = some (.cells #[.map (some MB)] 79 (0, 0)) := by rw [← hW5, ← hBS]; exact new_bkc _ _ rfl
  rw [hW5, hBS]
  have hB4 : BL < BS := by rw [← hBS]; exact lt_bkc (n4.block o2)
  have hMS : MB < BS := by rw [← hBS]; exact hMB4
  have hBM : BL < MB := Nat.lt_of_lt_of_le (lt_bkc o2) hMB
  clear hW5 hBS hMB4
  replace m4 := m4.nb n5
  replace o2 := (n4.trans n5).block o2
  replace b1 := (n4.trans n5).block b1
  have n15 := n12.trans (n4.trans n5)
  clear n1 n12 n4 n5 c0 c1 c2'
  have c0 := cell_of_row _ _ 0 _ _ _ b1
  have c1 := cell_of_row _ _ 1 _ _ _ b1
  have c2' := cell_of_row _ _ 2 _ _ _ b1
  go_upto_region 4 with (go_at_call 36; refine (hplh.out W5).mono ?_; rintro r w' ⟨rfl, rfl⟩)
  obtain ⟨W6, hW6⟩ : ∃ W6, W5.alloc (.cells #[.slice it is.length cap, .int .u64 base, .slice (some ⟨g, 0, none⟩) is.length c2] 48) = W6 := ⟨_, rfl⟩
  have n6 : Nb W5 W6 := by rw [← hW6]; exact Below.alloc (Below.refl _ _) (Nat.le_refl _) _
  have b6 : W6.heap[W5.heap.size]? = some (.cells #[.slice it is.length cap, .int .u64 base, .slice (some ⟨g, 0, none⟩) is.length c2] 48 (0, 0)) := by rw [← hW6]; exact new_bkc _ _ rfl
  rw [hW6]
  clear hW6
  obtain ⟨DB, hDB⟩ : ∃ DB, W5.heap.size = DB := ⟨_, rfl⟩
  rw [hDB] at b6 ⊢
  have hDB6 : DB < W6.heap.size := lt_bkc b6
  have hSD : BS < DB := by rw [← hDB]; exact lt_bkc s5
  replace m4 := m4.nb n6
  replace s5 := n6.block s5
  replace b1 := n6.block b1
  replace o2 := n6.block o2
  have nW : Nb w W6 := n15.trans n6
  clear n15 n6 c0 c1 c2' hDB hplh
  refine (wpIn_wide (n := 1)).1 ?_
  refine range_plainO (F := Fence.wide) (n := 1) rfl (Nat.le_refl 1) (gf := 60) (lb := #[.pointer (some ⟨DB, 0, none⟩)]) rfl trivial (enters_of Tryd.func60 (by kernel_rfl) rfl)
    (plc_seq (Kn w.heap.size (XT 76) (fun k => k = BL ∨ k = W6.heap.size + 1)) Kn.refl (fun h k => Kn.trans h k) (fun h => Kn.of_nb h) 0 DB it b off cap g c2 base hb0 hb1 is fs hith.out hfh.out hcap hc2 hl hvh.out ob og (fun _ _ h => h.low hbl) (fun _ _ h => h.low hgl) (fun _ _ h hA => h.block (by rintro (h | h) <;> omega) hA rfl) W6 (nW.block hob) (nW.block hog) b6 (hIh.out.nb nW) (hFh.out.nb nW))
    (fun h k => Kn.trans h k) (fun W o _ => Kn.of_nb (Below.alloc (Below.refl _ _) (Nat.le_refl _) _)) (fun W o o' _ => Kn.putObj W _ _ (.inr rfl) (by omega)) (Below.refl _ _) (fun _ => rfl)
    (fun (xs : List (PlV is.length)) W => (∃ s, Boxed W BL 72 s ∧ W.ownsRow w.heap.size 76 4 s (spL is ST (xs.map (·.1))).length ((spL is ST (xs.map (·.1))).flatMap sp4C) ∧ True) ∧ SMapu W MB ST ∧ W.heap[BS]? = some (.cells #[.map (some MB)] 79 (0, 0)) ∧ W.heap[w.heap.size]? = some (.cells #[.slice it is.length cap, .int .u64 base, .slice (some ⟨g, 0, none⟩) is.length c2] 48 (0, 0)) ∧ Below w.heap.size w W)
    (fun _ _ _ => False)
    (OwnFrom.and (Own.from (holdsRow_own w.heap.size BL 72 76 4 (fun (xs : List (PlV is.length)) => (spL is ST (xs.map (·.1))).length) (fun xs => (spL is ST (xs.map (·.1))).flatMap sp4C) (fun _ _ => True)) _) (OwnFrom.and (smapu_own W6.heap.size MB (by omega) (fun xs : List (PlV is.length) => ST)) (OwnFrom.and (blk_own W6.heap.size BS (by omega) _) (OwnFrom.and (blk_own W6.heap.size w.heap.size (by omega) _) (ownFrom_below (Nat.le_refl _) (by omega))))))
    (fun _ _ _ _ _ hs _ _ => hs)
    ⟨⟨_, o2, World.ownsRow_nil _ _ _ _, trivial⟩, m4, s5, b1, nW⟩
    (fun x => { tmps := #[.agg #[.slice it is.length cap, .int .u64 base, .slice (some ⟨g, 0, none⟩) is.length c2], .pointer (some ⟨w.heap.size, 0, none⟩), .slice none 0 0, .pointer (some ⟨BL, 0, none⟩), .pointer (some ⟨BS, 0, none⟩), .int .i64 x.1.1, .int .u64 x.1.2, undef, undef, .agg #[.slice it is.length cap, .int .u64 base, .slice (some ⟨g, 0, none⟩) is.length c2], .map (some MB), .agg #[.slice it is.length cap, .int .u64 base, .slice (some ⟨g, 0, none⟩) is.length c2], .func (.func 60) #[] #[.pointer (some ⟨DB, 0, none⟩)], .int .i64 x.1.1, .int .u64 x.1.2, undef, undef, undef, undef, undef, undef, undef, undef, undef, undef, undef, undef, undef, undef, undef, undef, undef, undef, undef, undef, undef, undef, undef, undef], defers := [] }) ?assign ?body ?done ?stop
  case assign =>
    rintro l2 x W K hK
    gi_wp2
    simpa using hK
  case body =>
    rintro l2 pre2 ⟨⟨k, at_⟩, hk, ha0, ha1⟩ W hBl - ⟨⟨s, hbx, hrow, -⟩, hm, hs, hd, hB⟩ hlen2
    simp only [] at hk ha0 ha1 ⊢
    obtain ⟨i, hii⟩ : ∃ i, is[k]? = some i := ⟨_, List.getElem?_eq_getElem hk⟩
    have hP := fun j u hu => (hIh.out.nb hB) k i hii j u hu
    obtain rfl := hith.out (by rintro rfl; simp at hk)
    have hst : spL is ST ((pre2 ++ [(⟨(k, at_), hk, ha0, ha1⟩ : PlV is.length)]).map (·.1)) = spL is ST (pre2.map (·.1)) ++ if i.1 = 3 then [(k, at_, (ST i.2.2.1).getD 0, farI ((ST i.2.2.1).getD 0) at_)] else [] := by
      rw [List.map_append]
      show spL is ST (_ ++ [(k, at_)]) = _
      rw [spL_snoc]
      congr 1
      show (match is[k]? with | some i => if i.1 = 3 then [(k, at_, (ST i.2.2.1).getD 0, farI ((ST i.2.2.1).getD 0) at_)] else [] | none => []) = _
      rw [hii]
    have hln : (spL is ST (pre2.map (·.1))).length ≤ 100000 := by have := spL_len is ST (pre2.map (·.1)); rw [List.length_map] at this; omega
    generalize spL is ST (pre2.map (·.1)) = SP at hst hrow hln
    replace hst := Lib.hid hst
    obtain ⟨kd, ⟨o1, o2', o3, o4, o5, o6, o7⟩, nm, v⟩ := i
    have p0 : W.cell? ⟨b, off + k * 10, none⟩ = some (.int .i64 kd) := hP 0 _ rfl
    have p1 : W.cell? ⟨b, off + k * 10 + 1, none⟩ = some (.int .i64 o1) := hP 1 _ rfl
    have p2 : W.cell? ⟨b, off + k * 10 + 2, none⟩ = some (.int .i64 o2') := hP 2 _ rfl
    have p3 : W.cell? ⟨b, off + k * 10 + 3, none⟩ = some (.int .i64 o3) := hP 3 _ rfl
    have p4 : W.cell? ⟨b, off + k * 10 + 4, none⟩ = some (.int .i64 o4) := hP 4 _ rfl
    have p5 : W.cell? ⟨b, off + k * 10 + 5, none⟩ = some (.int .i64 o5) := hP 5 _ rfl
    have p6 : W.cell? ⟨b, off + k * 10 + 6, none⟩ = some (.bool o6) := hP 6 _ rfl
    have p7 : W.cell? ⟨b, off + k * 10 + 7, none⟩ = some (.bool o7) := hP 7 _ rfl
    have p8 : W.cell? ⟨b, off + k * 10 + 8, none⟩ = some (.string nm) := hP 8 _ rfl
    have p9 : W.cell? ⟨b, off + k * 10 + 9, none⟩ = some (.int .u64 v) := hP 9 _ rfl
    have hb1' : (0 : Int) ≤ (k : Int) := by omega
    have hb2' : (k : Int) < (is.length : Int) := by omega
    have q0 := cell_of_row _ _ 0 _ _ _ hd
    have q1 := cell_of_row _ _ 0 _ _ _ hs
    have q2 := hbx.cell
    have f2 := hbx.frozen
    clear hP hii
    have hlS : BS < W.heap.size := lt_bkc hs
    have hlL : BL < W.heap.size := by omega
    have hlD : w.heap.size < W.heap.size := lt_bkc hd
    have nA : Nb W (W.alloc (.cells #[.int .i64 kd, .int .i64 o1, .int .i64 o2', .int .i64 o3, .int .i64 o4, .int .i64 o5, .bool o6, .bool o7, .string nm, .int .u64 v] 39)) := Below.alloc (Below.refl _ _) (Nat.le_refl _) _
    cases h3 : (kd == 3)
    · have hst2 := hst.out
      rw [if_neg (by simpa using h3), List.append_nil] at hst2
      replace hst2 := Lib.hid hst2
      clear hst
      gi_wp2_with (fail)
      exact ⟨⟨nA.size, fun j o hj hA hc' => nA.block hA⟩, Kn.of_nb nA, ⟨s, hbx.alloc _, by rw [hst2.out]; exact hrow.alloc _⟩, hm.nb nA, nA.block hs, nA.block hd, hB.trans (Below.alloc (Below.refl _ _) hB.size _)⟩
    · have hst2 := hst.out
      rw [if_pos (by simpa using h3)] at hst2
      replace hst2 := Lib.hid hst2
      clear hst
      obtain ⟨TO, hTO⟩ : ∃ TO, (ST nm).getD 0 = TO := ⟨_, rfl⟩
      have hTOh := Lib.hid hTO
      clear hTO
      gi_wp2_with (first | (gi_at_lookup; refine wpListIn_look1_su rfl (.tmp 23) (.tmp 25) rfl (hm.nb nA) rfl rfl hTOh.out ?_) | (gi_at_builtin; refine wpListIn_append_own _ rfl _ _ 72 rfl w.heap.size 76 i0 _ 4 32 Tryd.underlying72 hi hz0 hz1 hz2 rfl (by decide) _ _ _ rfl ((hrow.alloc _).alloc _) ⟨W.heap.size + 1, 0, none⟩ 1 1 (sp4C (k, at_, TO, farI TO at_)) rfl rfl ?c1 ?c2 ?c3 ?c4 ?c5 ?_))
      case c1 =>
        intro j u hj
        exact hj
      case c2 => exact one_sp4 _
      case c3 => unfold maxLen; omega
      case c4 => omega
      case c5 => have := hB.size; omega
      intro v' w1 hown' hgrow _
      obtain ⟨g', cap', rfl⟩ := ownsRow_succ hown'
      obtain ⟨hv1, hv2, hr2, hk2, hb2⟩ := (hbx.alloc _).appended (by decide) (hrow.alloc _) (by rw [World.size_alloc]; omega) (by omega) hown' hgrow
      have hq : Kq (XT 76) (fun k => k = BL) W (w1.setCell ⟨BL, 0, none⟩ (.slice (some ⟨g', 0, none⟩) (SP.length + 1) cap')) :=
        ((Kq.of_nb (((Nb.refl W).alloc _).alloc _)).trans (app_kqT ((hrow.alloc _).alloc _) hgrow)).trans (Kq.set _ _ _ rfl)
      have hc1 := hv1.cell
      have hf1 := hv1.frozen
      have hfin : Hid (Kq (XT 76) (fun k => k = BL) W (w1.setCell ⟨BL, 0, none⟩ (.slice (some ⟨g', 0, none⟩) (SP.length + 1) cap')) ∧ (∃ s, Boxed (w1.setCell ⟨BL, 0, none⟩ (.slice (some ⟨g', 0, none⟩) (SP.length + 1) cap')) BL 72 s ∧ (w1.setCell ⟨BL, 0, none⟩ (.slice (some ⟨g', 0, none⟩) (SP.length + 1) cap')).ownsRow w.heap.size 76 4 s (SP ++ [(k, at_, TO, farI TO at_)]).length ((SP ++ [(k, at_, TO, farI TO at_)]).flatMap sp4C)) ∧ Below w.heap.size w (w1.setCell ⟨BL, 0, none⟩ (.slice (some ⟨g', 0, none⟩) (SP.length + 1) cap'))) :=
        Lib.hid ⟨hq, ⟨_, hv2, by simpa using hr2⟩, (hB.trans (Below.alloc (Below.refl _ _) hB.size _)).trans hb2⟩
      clear p0 p1 p2 p3 p4 p5 p6 p7 p8 p9 q0 q1 q2 f2 hq hv2 hr2 hk2 hb2 hown' hgrow
      gi_wp2
      obtain ⟨hq, hsx, hBf⟩ := hfin.out
      exact ⟨⟨hq.1, fun j o hj hA hc => hq.block (by omega) hA (XT_cells hc)⟩, Kn.of (Nat.le_refl _) (hq.mono (fun _ h => .inl h)) hB hBf, by rw [hst2.out, hTOh.out]; simpa using hsx, hm.kept (fun o ho => hq.block (by omega) ho (by obtain ⟨es, ck, h, -⟩ := hm; rw [ho] at h; cases h; rfl)), hq.block (by omega) hs rfl, hq.block (by omega) hd rfl, hBf⟩
  case done =>
    rintro D xs V hD hxs ⟨⟨s, hbx, hrow, -⟩, hm, hs, hd, hB⟩ hK
    have c0 := hbx.cell
    rw [hxs] at hrow
    gi_wp2
    go_wp2_with fail
    refine ⟨by simp, .inl ⟨_, _, rfl, run_takeDeferred hK, ?_⟩⟩
    exact ⟨_, results_tmp rfl _ _ _, s, rfl, hB.trans (belowK_b (w := w) (Nat.le_refl _) V D _ _ (by omega) hK rfl rfl), ownsRow_putObj hrow _ hK rfl⟩
  case stop =>
    rintro D c pre2 V _ _ h _
    exact h.elim
end Go.Proofs.YtnooabgdcfegeaaDoor
