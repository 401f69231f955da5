/-
  Proved here: words: the words and the labels of a draft. Conditions: where the draft lies; the table of codes holds what its text lays.
-/
import Derived.Test.YtnooabgdcfegeaaDoorSbm
import Derived.BigRegion
namespace Go.Proofs.YtnooabgdcfegeaaDoor
open Go.RowKit Go.Shelf Go.ChangeMaps
set_option linter.unusedVariables false
set_option linter.unusedSimpArgs false
set_option maxRecDepth 100000
set_option maxHeartbeats 8000000
attribute [local go_sem] Oper.semAt_some
theorem set3c {V : World} {a b c : Nat} {x y z : Value} {ta tb tc : TypeId} (hab : a ≠ b) (hac : a ≠ c) (hbc : b ≠ c) (ha : V.heap[a]? = some (.cells #[x] ta (0, 0))) (hb : V.heap[b]? = some (.cells #[y] tb (0, 0))) (hc : V.heap[c]? = some (.cells #[z] tc (0, 0))) (x' y' z' : Value) :
    (((V.setCell ⟨a, 0, none⟩ x').setCell ⟨b, 0, none⟩ y').setCell ⟨c, 0, none⟩ z').heap[a]? = some (.cells #[x'] ta (0, 0)) ∧ (((V.setCell ⟨a, 0, none⟩ x').setCell ⟨b, 0, none⟩ y').setCell ⟨c, 0, none⟩ z').heap[b]? = some (.cells #[y'] tb (0, 0)) ∧ (((V.setCell ⟨a, 0, none⟩ x').setCell ⟨b, 0, none⟩ y').setCell ⟨c, 0, none⟩ z').heap[c]? = some (.cells #[z'] tc (0, 0)) := by
  have h1 : (V.setCell ⟨a, 0, none⟩ x').heap[a]? = some (.cells #[x'] ta (0, 0)) := by simpa using set_bkc ha 0 x'
  have hb1 := (Below.heap_setCell V ⟨a, 0, none⟩ x' b (fun e => hab e.symm)).trans hb
  have hc1 := (Below.heap_setCell V ⟨a, 0, none⟩ x' c (fun e => hac e.symm)).trans hc
  have h2 : ((V.setCell ⟨a, 0, none⟩ x').setCell ⟨b, 0, none⟩ y').heap[b]? = some (.cells #[y'] tb (0, 0)) := by simpa using set_bkc hb1 0 y'
  have ha2 := (Below.heap_setCell (V.setCell ⟨a, 0, none⟩ x') ⟨b, 0, none⟩ y' a (fun e => hab e)).trans h1
  have hc2 := (Below.heap_setCell (V.setCell ⟨a, 0, none⟩ x') ⟨b, 0, none⟩ y' c (fun e => hbc e.symm)).trans hc1
  exact ⟨(Below.heap_setCell _ ⟨c, 0, none⟩ z' a (fun e => hac e)).trans ha2, (Below.heap_setCell _ ⟨c, 0, none⟩ z' b (fun e => hbc e)).trans h2, by simpa using set_bkc hc2 0 z'⟩
theorem flat_lb (l : List (ByteArray × Int)) : (l.flatMap lbC).length = l.length * 2 := by
  induction l with
  | nil => rfl
  | cons a r ih => rw [List.flatMap_cons, List.length_append, ih]; simp [lbC]; omega
theorem results_c3 {fn : Func} {p q r : Tmp} {tp tq tr : TypeId} {P : Program} (h : fn.results = #[.cell p tp, .cell q tq, .cell r tr]) (tmps : Array Value) (w : World) (a b c : Nat) {x y z : Value}
    (hp : tmps.getD p undef = .pointer (some ⟨a, 0, none⟩)) (hq : tmps.getD q undef = .pointer (some ⟨b, 0, none⟩)) (hr : tmps.getD r undef = .pointer (some ⟨c, 0, none⟩))
    (h1 : (loadVar tp ⟨a, 0, none⟩).run P w = .ok x w) (h2 : (loadVar tq ⟨b, 0, none⟩).run P w = .ok y w) (h3 : (loadVar tr ⟨c, 0, none⟩).run P w = .ok z w) :
    (results fn tmps).run P w = .ok (.tuple #[x, y, z]) w := by
  have e1 : (asAddr (.pointer (some ⟨a, 0, none⟩))).run P w = .ok ⟨a, 0, none⟩ w := rfl
  have e2 : (asAddr (.pointer (some ⟨b, 0, none⟩))).run P w = .ok ⟨b, 0, none⟩ w := rfl
  have e3 : (asAddr (.pointer (some ⟨c, 0, none⟩))).run P w = .ok ⟨c, 0, none⟩ w := rfl
  rw [Array.getD_eq_getD_getElem?] at hp hq hr
  simp only [results, h]
  simp [Sem.run_bind, Result.andThen, hp, hq, hr, e1, e2, e3, h1, h2, h3]
theorem lv_words {w : World} {a : Nat} {x : Value} (h : w.heap[a]? = some (.cells #[x] 26 (0, 0))) : (loadVar 26 ⟨a, 0, none⟩).run Tryd.prog w = .ok x w := by
  have c := cell_of_row _ _ 0 _ _ _ h
  unfold loadVar
  simp [go_sem, c]
theorem lv_labels {w : World} {a : Nat} {x : Value} (h : w.heap[a]? = some (.cells #[x] 27 (0, 0))) : (loadVar 27 ⟨a, 0, none⟩).run Tryd.prog w = .ok x w := by
  have c := cell_of_row _ _ 0 _ _ _ h
  unfold loadVar
  simp [go_sem, c]
theorem lv_err {w : World} {a : Nat} {x : Value} (h : w.heap[a]? = some (.cells #[x] 28 (0, 0))) : (loadVar 28 ⟨a, 0, none⟩).run Tryd.prog w = .ok x w := by
  have c := cell_of_row _ _ 0 _ _ _ h
  unfold loadVar
  simp [go_sem, c]
/-- What words answers of instructions and labels. -/
def WdAns (L : List In7) (B : List (ByteArray × Int)) (w : World) (r : Ending) (w' : World) : Prop :=
  (L.all okI = true ∧ ∃ s t, r = .returned (.tuple #[s, t, .int .i64 0]) ∧ Nb w w' ∧ w'.ownsRow w.heap.size 60 1 s L.length (w32 L) ∧ w'.ownsRow w.heap.size 44 2 t B.length (B.flatMap lbC)) ∨
  (L.all okI = false ∧ r = .returned (.tuple #[.slice none 0 0, .slice none 0 0, .int .i64 191]) ∧ Nb w w')
theorem words_any (it : Option Addr) (b off cap g c2 : Nat) (base : Int) (hb0 : 0 ≤ base) (hb1 : base ≤ 1073741824) (is : List Itm) (fs : List Bool) (hit : is ≠ [] → it = some ⟨b, off, none⟩) (hfs : fs.length = is.length) (hcap : is.length ≤ cap) (hc2 : is.length ≤ c2) (hl : is.length ≤ 100000) (hv : ∀ i ∈ is, 0 ≤ i.2.2.2 ∧ i.2.2.2 < 18446744073709551616 ∧ ImOk i.2.1)
    (ob og : Obj) (w : World) (hC : Cod w) (hob : w.heap[b]? = some ob) (hog : w.heap[g]? = some og) (hI : ItAt w b off is) (hF : FlAt w g fs) (hSr : ∀ nm, 0 ≤ ((stL is (plcL base (is.zip fs))) nm).getD 0 ∧ ((stL is (plcL base (is.zip fs))) nm).getD 0 < 18446744073709551616) :
    Calls Tryd.prog 15 #[drV it is.length cap base g c2] w (WdAns (inL is fs (stL is (plcL base (is.zip fs))) (plcL base (is.zip fs))) (lbL is (plcL base (is.zip fs))) w) := by
  have had := addresses_any it b off cap g c2 base hb0 hb1 is fs hit hfs hcap hc2 hl hv ob og
  replace had := fun V (hV : Nb w V) => had V (hV.block hob) (hV.block hog) (hI.nb hV) (hF.nb hV)
  have hpl := places_any it is.length cap g c2 base
  unfold drV at hpl had ⊢
  obtain ⟨iu, hiu, hu0, hu1, hu2⟩ := parts_u32
  obtain ⟨ib, hib, hl0, hl1, hl2⟩ := parts_lb
  have hbl : b < w.heap.size := lt_bkc hob
  have hgl : g < w.heap.size := lt_bkc hog
  obtain ⟨PL, hPL⟩ : ∃ PL, plcL base (is.zip fs) = PL := ⟨_, rfl⟩
  obtain ⟨ST, hST⟩ : ∃ ST, stL is PL = ST := ⟨_, rfl⟩
  rw [hPL, hST] at had hSr ⊢
  clear hST
  have hPLl : PL.length = is.length := by rw [← hPL]; unfold plcL; rw [List.length_map, List.length_range, List.length_zip]; omega
  refine (callsIn_wide (n := 5)).1 ?_
  refine callsIn_of_wp_marks Tryd.func15 rfl trivial ?_ rfl
  simp only [Tryd.ntmps15, List.size_toArray, List.length_cons, List.length_nil, Nat.reduceAdd, Nat.reduceSub, Array.replicate_succ, Array.replicate_zero, List.push_toArray, List.append_toArray, List.nil_append, List.cons_append]
  refine wpIn_wide.2 ?_
  have hplh := Lib.hid hpl
  have hadh := Lib.hid had
  have hith := Lib.hid hit
  have hvh := Lib.hid hv
  have hfh := Lib.hid hfs
  have hIh := Lib.hid hI
  have hFh := Lib.hid hF
  have hPLh := Lib.hid hPL
  have hSh := Lib.hid hSr
  have hPz := Lib.hid hPLl
  clear hpl had hit hv hfs hI hF hPL hSr hPLl
  go_upto_region 3 with (fail)
  obtain ⟨W1, hW1⟩ : ∃ W1, w.alloc (.cells #[.slice it is.length cap, .int .u64 base, .slice (some ⟨g, 0, none⟩) is.length c2] 48) = W1 := ⟨_, rfl⟩
  have n1 : Nb w W1 := by rw [← hW1]; exact Below.alloc (Below.refl _ _) (Nat.le_refl _) _
  have b1 : W1.heap[w.heap.size]? = some (.cells #[.slice it is.length cap, .int .u64 base, .slice (some ⟨g, 0, none⟩) is.length c2] 48 (0, 0)) := by rw [← hW1]; exact new_bkc _ _ rfl
  have z1 : W1.heap.size = w.heap.size + 1 := by rw [← hW1, World.size_alloc]
  rw [hW1]
  clear hW1
  have n0 := n1
  obtain ⟨C2, hC2⟩ : ∃ C2, w.heap.size + 1 = C2 := ⟨_, rfl⟩
  rw [hC2] at z1 ⊢
  obtain ⟨A0, hA0⟩ : ∃ A0, W1.alloc (.cells #[.slice none 0 0] 26) = A0 := ⟨_, rfl⟩
  have qC2 : A0.heap[C2]? = some (.cells #[.slice none 0 0] 26 (0, 0)) := by rw [← hA0]; exact new_bkc _ _ z1
  have nn0 : Nb W1 A0 := by rw [← hA0]; exact (Nb.refl _).alloc _
  have zC2 : A0.heap.size = C2 + 1 := by rw [← hA0, World.size_alloc, z1]
  replace b1 := nn0.block b1
  replace n0 := n0.trans nn0
  rw [hA0]
  clear hA0 nn0 z1
  obtain ⟨C3, hC3⟩ : ∃ C3, C2 + 1 = C3 := ⟨_, rfl⟩
  rw [hC3] at zC2 ⊢
  obtain ⟨A1, hA1⟩ : ∃ A1, A0.alloc (.cells #[.slice none 0 0] 27) = A1 := ⟨_, rfl⟩
  have qC3 : A1.heap[C3]? = some (.cells #[.slice none 0 0] 27 (0, 0)) := by rw [← hA1]; exact new_bkc _ _ zC2
  have nn1 : Nb A0 A1 := by rw [← hA1]; exact (Nb.refl _).alloc _
  have zC3 : A1.heap.size = C3 + 1 := by rw [← hA1, World.size_alloc, zC2]
  replace b1 := nn1.block b1
  replace qC2 := nn1.block qC2
  replace n0 := n0.trans nn1
  rw [hA1]
  clear hA1 nn1 zC2
  obtain ⟨C4, hC4⟩ : ∃ C4, C3 + 1 = C4 := ⟨_, rfl⟩
  rw [hC4] at zC3 ⊢
  obtain ⟨A2, hA2⟩ : ∃ A2, A1.alloc (.cells #[.int .i64 0] 28) = A2 := ⟨_, rfl⟩
  have qC4 : A2.heap[C4]? = some (.cells #[.int .i64 0] 28 (0, 0)) := by rw [← hA2]; exact new_bkc _ _ zC3
  have nn2 : Nb A1 A2 := by rw [← hA2]; exact (Nb.refl _).alloc _
  have zC4 : A2.heap.size = C4 + 1 := by rw [← hA2, World.size_alloc, zC3]
  replace b1 := nn2.block b1
  replace qC2 := nn2.block qC2
  replace qC3 := nn2.block qC3
  replace n0 := n0.trans nn2
  rw [hA2]
  clear hA2 nn2 zC3
  obtain ⟨BW, hBW⟩ : ∃ BW, C4 + 1 = BW := ⟨_, rfl⟩
  rw [hBW] at zC4 ⊢
  obtain ⟨A3, hA3⟩ : ∃ A3, A2.alloc (.cells #[.slice none 0 0] 26) = A3 := ⟨_, rfl⟩
  have qBW : A3.heap[BW]? = some (.cells #[.slice none 0 0] 26 (0, 0)) := by rw [← hA3]; exact new_bkc _ _ zC4
  have nn3 : Nb A2 A3 := by rw [← hA3]; exact (Nb.refl _).alloc _
  have zBW : A3.heap.size = BW + 1 := by rw [← hA3, World.size_alloc, zC4]
  replace b1 := nn3.block b1
  replace qC2 := nn3.block qC2
  replace qC3 := nn3.block qC3
  replace qC4 := nn3.block qC4
  replace n0 := n0.trans nn3
  rw [hA3]
  clear hA3 nn3 zC4
  obtain ⟨BL, hBL⟩ : ∃ BL, BW + 1 = BL := ⟨_, rfl⟩
  rw [hBL] at zBW ⊢
  obtain ⟨A4, hA4⟩ : ∃ A4, A3.alloc (.cells #[.slice none 0 0] 27) = A4 := ⟨_, rfl⟩
  have qBL : A4.heap[BL]? = some (.cells #[.slice none 0 0] 27 (0, 0)) := by rw [← hA4]; exact new_bkc _ _ zBW
  have nn4 : Nb A3 A4 := by rw [← hA4]; exact (Nb.refl _).alloc _
  have zBL : A4.heap.size = BL + 1 := by rw [← hA4, World.size_alloc, zBW]
  replace b1 := nn4.block b1
  replace qC2 := nn4.block qC2
  replace qC3 := nn4.block qC3
  replace qC4 := nn4.block qC4
  replace qBW := nn4.block qBW
  replace n0 := n0.trans nn4
  rw [hA4]
  clear hA4 nn4 zBW
  have c0 := cell_of_row _ _ 0 _ _ _ b1
  have c1 := cell_of_row _ _ 1 _ _ _ b1
  have c2' := cell_of_row _ _ 2 _ _ _ b1
  have hA2 := Lib.hid (hadh.out A4 n0)
  go_upto_region 4 with (go_at_call 35; refine hA2.out.mono ?_; rintro r w4 ⟨MB, rfl, n4, m4, hMB⟩)
  clear hA2 hadh
  obtain ⟨BS, hBS⟩ : ∃ BS, w4.heap.size = BS := ⟨_, rfl⟩
  obtain ⟨W5, hW5⟩ : ∃ W5, w4.alloc (.cells #[.map (some MB)] 79) = W5 := ⟨_, rfl⟩
  have hMB4 : MB < w4.heap.size := by obtain ⟨es, ck, h, -⟩ := m4; exact (Array.getElem?_eq_some_iff.1 h).1
  have n5 : Nb w4 W5 := by rw [← hW5]; exact (Nb.refl w4).alloc _
  have s5 : W5.heap[BS]? = some (.cells #[.map (some MB)] 79 (0, 0)) := by rw [← hW5, ← hBS]; exact new_bkc _ _ rfl
  rw [hW5, hBS]
  have hB4 : BL < BS := by rw [← hBS]; exact lt_bkc (n4.block qBL)
  have hMS : MB < BS := by rw [← hBS]; exact hMB4
  have hBM : BL < MB := Nat.lt_of_lt_of_le (lt_bkc qBL) hMB
  clear hW5 hBS hMB4
  replace m4 := m4.nb n5
  replace b1 := (n4.trans n5).block b1
  replace qC2 := (n4.trans n5).block qC2
  replace qC3 := (n4.trans n5).block qC3
  replace qC4 := (n4.trans n5).block qC4
  replace qBW := (n4.trans n5).block qBW
  replace qBL := (n4.trans n5).block qBL
  have n15 := n0.trans (n4.trans n5)
  clear n0 n4 n5 c0 c1 c2' zBL hMB
  have c0 := cell_of_row _ _ 0 _ _ _ b1
  have c1 := cell_of_row _ _ 1 _ _ _ b1
  have c2' := cell_of_row _ _ 2 _ _ _ b1
  go_upto_region 5 with (go_at_call 36; refine (hplh.out W5).mono ?_; rintro r w' ⟨rfl, rfl⟩)
  obtain ⟨W6, hW6⟩ : ∃ W6, W5.alloc (.cells #[.slice it is.length cap, .int .u64 base, .slice (some ⟨g, 0, none⟩) is.length c2] 48) = W6 := ⟨_, rfl⟩
  have n6 : Nb W5 W6 := by rw [← hW6]; exact Below.alloc (Below.refl _ _) (Nat.le_refl _) _
  have b6 : W6.heap[W5.heap.size]? = some (.cells #[.slice it is.length cap, .int .u64 base, .slice (some ⟨g, 0, none⟩) is.length c2] 48 (0, 0)) := by rw [← hW6]; exact new_bkc _ _ rfl
  rw [hW6]
  clear hW6
  obtain ⟨DB, hDB⟩ : ∃ DB, W5.heap.size = DB := ⟨_, rfl⟩
  rw [hDB] at b6 ⊢
  have hDB6 : DB < W6.heap.size := lt_bkc b6
  have hSD : BS < DB := by rw [← hDB]; exact lt_bkc s5
  replace m4 := m4.nb n6
  replace s5 := n6.block s5
  replace b1 := n6.block b1
  replace qC2 := n6.block qC2
  replace qC3 := n6.block qC3
  replace qC4 := n6.block qC4
  replace qBW := n6.block qBW
  replace qBL := n6.block qBL
  have nW : Nb w W6 := n15.trans n6
  clear n15 n6 c0 c1 c2' hDB hplh
  have hR6 : ∀ k : Nat, (k = BW ∨ k = BL ∨ k = W6.heap.size + 1) → (∀ cs fr, W6.heap[k]? ≠ some (.cells cs 60 fr)) ∧ ∀ cs fr, W6.heap[k]? ≠ some (.cells cs 44 fr) := by
    rintro k (rfl | rfl | rfl)
    · exact ⟨fun cs fr h => (by rw [qBW] at h; cases h), fun cs fr h => (by rw [qBW] at h; cases h)⟩
    · exact ⟨fun cs fr h => (by rw [qBL] at h; cases h), fun cs fr h => (by rw [qBL] at h; cases h)⟩
    · exact ⟨fun cs fr h => absurd (lt_bkc h) (by omega), fun cs fr h => absurd (lt_bkc h) (by omega)⟩
  refine (wpIn_wide (n := 5)).1 ?_
  refine range_plainH (F := Fence.wide) (n := 5) rfl (by decide) (gf := 60) (lb := #[.pointer (some ⟨DB, 0, none⟩)]) rfl trivial (enters_of Tryd.func60 (by kernel_rfl) rfl)
    (plc_seq (Kn w.heap.size (XU 60 44) (fun k => k = BW ∨ k = BL ∨ k = C2 ∨ k = C3 ∨ k = C4 ∨ k = W6.heap.size + 1)) Kn.refl (fun h k => Kn.trans h k) (fun h => Kn.of_nb h) 4 DB it b off cap g c2 base hb0 hb1 is fs hith.out hfh.out hcap hc2 hl hvh.out ob og (fun _ _ h => h.low hbl) (fun _ _ h => h.low hgl) (fun _ _ h hA => h.block (by rintro (h | h | h | h | h | h) <;> omega) hA rfl) W6 (nW.block hob) (nW.block hog) b6 (hIh.out.nb nW) (hFh.out.nb nW))
    (fun h k => Kn.trans h k) (fun W o _ => Kn.of_nb (Below.alloc (Below.refl _ _) (Nat.le_refl _) _)) (fun W o o' _ => Kn.putObj W _ _ (.inr (.inr (.inr (.inr (.inr rfl))))) (by omega)) (Below.refl _ _) (fun _ => rfl)
    (fun (xs : List (PlV is.length)) W => (∃ s, Boxed W BW 26 s ∧ W.ownsRow w.heap.size 60 1 s (inL is fs ST (xs.map (·.1))).length (w32 (inL is fs ST (xs.map (·.1)))) ∧ True) ∧ (inL is fs ST (xs.map (·.1))).all okI = true ∧ (∃ s, Boxed W BL 27 s ∧ W.ownsRow w.heap.size 44 2 s (lbL is (xs.map (·.1))).length ((lbL is (xs.map (·.1))).flatMap lbC) ∧ True) ∧ Kq (XU 60 44) (fun k => k = BW ∨ k = BL) W6 W ∧ Below w.heap.size w W)
    (fun c xs W => c = .ret ∧ (inL is fs ST (xs.map (·.1))).all okI = false ∧ W.heap[C2]? = some (.cells #[.slice none 0 0] 26 (0, 0)) ∧ W.heap[C3]? = some (.cells #[.slice none 0 0] 27 (0, 0)) ∧ W.heap[C4]? = some (.cells #[.int .i64 191] 28 (0, 0)) ∧ Below w.heap.size w W)
    (OwnFrom.and (Own.from (holdsRow_own w.heap.size BW 26 60 1 (fun (xs : List (PlV is.length)) => (inL is fs ST (xs.map (·.1))).length) (fun xs => w32 (inL is fs ST (xs.map (·.1)))) (fun _ _ => True)) _) (OwnFrom.and (ownFrom_pure _ (fun (xs : List (PlV is.length)) => (inL is fs ST (xs.map (·.1))).all okI = true)) (OwnFrom.and (Own.from (holdsRow_own w.heap.size BL 27 44 2 (fun (xs : List (PlV is.length)) => (lbL is (xs.map (·.1))).length) (fun xs => (lbL is (xs.map (·.1))).flatMap lbC) (fun _ _ => True)) _) (OwnFrom.and (kq_own (Nat.le_refl _)) (ownFrom_below (Nat.le_refl _) (by omega))))))
    (fun c s A B row hs hg hr => ⟨hs.1, hs.2.1, (hg.block C2 (lt_bkc hs.2.2.1) (fun e => by have := (hr _ e.symm).1; omega)).trans hs.2.2.1, (hg.block C3 (lt_bkc hs.2.2.2.1) (fun e => by have := (hr _ e.symm).1; omega)).trans hs.2.2.2.1, (hg.block C4 (lt_bkc hs.2.2.2.2.1) (fun e => by have := (hr _ e.symm).1; omega)).trans hs.2.2.2.2.1, ownFrom_below (β := List (PlV is.length)) (Nat.le_refl _) (by omega) s A B row hs.2.2.2.2.2 hg hr⟩)
    ⟨⟨_, qBW, World.ownsRow_nil _ _ _ _, trivial⟩, rfl, ⟨_, qBL, World.ownsRow_nil _ _ _ _, trivial⟩, Kq.refl _, nW⟩
    (fun x => { tmps := #[.agg #[.slice it is.length cap, .int .u64 base, .slice (some ⟨g, 0, none⟩) is.length c2], .pointer (some ⟨w.heap.size, 0, none⟩), .pointer (some ⟨C2, 0, none⟩), .pointer (some ⟨C3, 0, none⟩), .pointer (some ⟨C4, 0, none⟩), .pointer (some ⟨BW, 0, none⟩), .pointer (some ⟨BL, 0, none⟩), .pointer (some ⟨BS, 0, none⟩), .int .i64 x.1.1, .int .u64 x.1.2, undef, undef, undef, undef, .agg #[.slice it is.length cap, .int .u64 base, .slice (some ⟨g, 0, none⟩) is.length c2], .map (some MB), .agg #[.slice it is.length cap, .int .u64 base, .slice (some ⟨g, 0, none⟩) is.length c2], .func (.func 60) #[] #[.pointer (some ⟨DB, 0, none⟩)], .int .i64 x.1.1, .int .u64 x.1.2, undef, undef, undef, undef, undef, undef, undef, undef, undef, undef, undef, undef, undef, undef, undef, undef, undef, undef, undef, undef, undef, undef, undef, undef, undef, undef, undef, undef, undef, undef, undef, undef, undef, undef, undef, undef, undef, undef, undef, undef, undef], defers := [] }) ?assign ?body ?done ?stop
  case assign =>
    rintro l2 x W K hK
    gi_wp2
    simpa using hK
  case body =>
    rintro l2 pre2 ⟨⟨k, at_⟩, hk, ha0, ha1⟩ W hBl hl2 ⟨rL, hrL⟩ - ⟨⟨s, hbx, hrow, -⟩, hgd, ⟨t, hbt, hrowt, -⟩, hkq, hB⟩ hlen2
    subst hl2
    simp only [] at hk ha0 ha1 ⊢
    obtain ⟨i, hii⟩ : ∃ i, is[k]? = some i := ⟨_, List.getElem?_eq_getElem hk⟩
    obtain ⟨f, hff⟩ : ∃ f, fs[k]? = some f := ⟨_, List.getElem?_eq_getElem (by rw [hfh.out]; exact hk)⟩
    have hP := fun j u hu => (hIh.out.nb hB) k i hii j u hu
    have hBf := (hFh.out.nb hB) k f hff
    obtain rfl := hith.out (by rintro rfl; simp at hk)
    have hvi := hvh.out i (List.mem_of_getElem? hii)
    have hto := hSh.out i.2.2.1
    have hins := insts_any i at_ ((ST i.2.2.1).getD 0) f hto.1 hto.2 hvi.1 hvi.2.1 hvi.2.2
    have hLl := insI_len i at_ ((ST i.2.2.1).getD 0) f
    have hst : inL is fs ST ((pre2 ++ [(⟨(k, at_), hk, ha0, ha1⟩ : PlV is.length)]).map (·.1)) = inL is fs ST (pre2.map (·.1)) ++ insI i at_ ((ST i.2.2.1).getD 0) f := by
      rw [List.map_append]
      show inL is fs ST (_ ++ [(k, at_)]) = _
      rw [inL_snoc]
      congr 1
      show (match is[k]?, fs[k]? with | some i, some l => insI i at_ ((ST i.2.2.1).getD 0) l | _, _ => []) = _
      rw [hii, hff]
    have hsb : lbL is ((pre2 ++ [(⟨(k, at_), hk, ha0, ha1⟩ : PlV is.length)]).map (·.1)) = lbL is (pre2.map (·.1)) ++ if i.1 = 2 then [(i.2.2.1, at_)] else [] := by
      rw [List.map_append]
      show lbL is (_ ++ [(k, at_)]) = _
      rw [lbL_snoc]
      congr 1
      show (match is[k]? with | some i => if i.1 = 2 then [(i.2.2.1, at_)] else [] | none => []) = _
      rw [hii]
    have hln : (inL is fs ST (pre2.map (·.1))).length ≤ 800000 := by have := inL_len is fs ST (pre2.map (·.1)); rw [List.length_map] at this; omega
    have hlm : (lbL is (pre2.map (·.1))).length ≤ 100000 := by have := lbL_len is (pre2.map (·.1)); rw [List.length_map] at this; omega
    generalize inL is fs ST (pre2.map (·.1)) = WL at hst hrow hln hgd
    generalize lbL is (pre2.map (·.1)) = LBS at hsb hrowt hlm
    replace hst := Lib.hid hst
    replace hsb := Lib.hid hsb
    have hm : SMapu W MB ST := m4.kept (fun o ho => hkq.block (by omega) ho (by obtain ⟨es, ck, h, -⟩ := m4; rw [ho] at h; cases h; rfl))
    have hs := hkq.block (k := BS) (by omega) s5 rfl
    have hd := hkq.block (k := w.heap.size) (by omega) b1 rfl
    have g2 := hkq.block (k := C2) (by omega) qC2 rfl
    have g3 := hkq.block (k := C3) (by omega) qC3 rfl
    have g4 := hkq.block (k := C4) (by omega) qC4 rfl
    obtain ⟨L, hLe⟩ : ∃ L, insI i at_ ((ST i.2.2.1).getD 0) f = L := ⟨_, rfl⟩
    rw [hLe] at hins hLl
    replace hst := Lib.hid (hst.out.trans (by rw [hLe]))
    clear hLe hvi hto
    obtain ⟨kd, ⟨o1, o2, o3, o4, o5, o6, o7⟩, nm, v⟩ := i
    have p0 : W.cell? ⟨b, off + k * 10, none⟩ = some (.int .i64 kd) := hP 0 _ rfl
    have p1 : W.cell? ⟨b, off + k * 10 + 1, none⟩ = some (.int .i64 o1) := hP 1 _ rfl
    have p2 : W.cell? ⟨b, off + k * 10 + 2, none⟩ = some (.int .i64 o2) := hP 2 _ rfl
    have p3 : W.cell? ⟨b, off + k * 10 + 3, none⟩ = some (.int .i64 o3) := hP 3 _ rfl
    have p4 : W.cell? ⟨b, off + k * 10 + 4, none⟩ = some (.int .i64 o4) := hP 4 _ rfl
    have p5 : W.cell? ⟨b, off + k * 10 + 5, none⟩ = some (.int .i64 o5) := hP 5 _ rfl
    have p6 : W.cell? ⟨b, off + k * 10 + 6, none⟩ = some (.bool o6) := hP 6 _ rfl
    have p7 : W.cell? ⟨b, off + k * 10 + 7, none⟩ = some (.bool o7) := hP 7 _ rfl
    have p8 : W.cell? ⟨b, off + k * 10 + 8, none⟩ = some (.string nm) := hP 8 _ rfl
    have p9 : W.cell? ⟨b, off + k * 10 + 9, none⟩ = some (.int .u64 v) := hP 9 _ rfl
    have hb1' : (0 : Int) ≤ (k : Int) := by omega
    have hb2' : (k : Int) < (is.length : Int) := by omega
    obtain ⟨TO, hTO⟩ : ∃ TO, (ST nm).getD 0 = TO := ⟨_, rfl⟩
    change ∀ w, Calls Tryd.prog 37 #[.agg #[.int .i64 kd, .int .i64 o1, .int .i64 o2, .int .i64 o3, .int .i64 o4, .int .i64 o5, .bool o6, .bool o7, .string nm, .int .u64 v], .int .u64 at_, .int .u64 ((ST nm).getD 0), .bool f] w fun r w' => ∃ fv, r = .returned fv ∧ ItOK w w' fv L ∧ Nb w w' at hins
    rw [hTO] at hins
    have hTOh := Lib.hid hTO
    replace hins := Lib.hid hins
    have hff2 := hff
    clear hTO hii hff hP
    have q0 := cell_of_row _ _ 0 _ _ _ hd
    have q1 := cell_of_row _ _ 0 _ _ _ hs
    have q2 := hbt.cell
    have f2 := hbt.frozen
    have hlS : BS < W.heap.size := lt_bkc hs
    have hlL : BL < W.heap.size := by omega
    have hlD : w.heap.size < W.heap.size := lt_bkc hd
    have nA : Nb W (W.alloc (.cells #[.int .i64 kd, .int .i64 o1, .int .i64 o2, .int .i64 o3, .int .i64 o4, .int .i64 o5, .bool o6, .bool o7, .string nm, .int .u64 v] 39)) := Below.alloc (Below.refl _ _) (Nat.le_refl _) _
    have bIt : (W.alloc (.cells #[.int .i64 kd, .int .i64 o1, .int .i64 o2, .int .i64 o3, .int .i64 o4, .int .i64 o5, .bool o6, .bool o7, .string nm, .int .u64 v] 39)).heap[W.heap.size]? = some (.cells #[.int .i64 kd, .int .i64 o1, .int .i64 o2, .int .i64 o3, .int .i64 o4, .int .i64 o5, .bool o6, .bool o7, .string nm, .int .u64 v] 39 (0, 0)) := new_bkc _ _ rfl
    cases h2 : (kd == 2)
    · have hsb2 := hsb.out
      rw [if_neg (by simpa using h2), List.append_nil] at hsb2
      replace hsb2 := Lib.hid hsb2
      clear hsb
      gi_wp2_with (fail)
      obtain ⟨ITB, hITB⟩ : ∃ ITB, W.heap.size = ITB := ⟨_, rfl⟩
      obtain ⟨V10, hV10⟩ : ∃ V10, W.alloc (.cells #[.int .i64 kd, .int .i64 o1, .int .i64 o2, .int .i64 o3, .int .i64 o4, .int .i64 o5, .bool o6, .bool o7, .string nm, .int .u64 v] 39) = V10 := ⟨_, rfl⟩
      rw [hV10, hITB] at bIt
      rw [hV10] at nA
      have bIt10 := bIt
      have x10 := nA.block hbx
      have w10 := row_kq hrow (Kq.of_nb (X := fun _ => false) (R := fun _ => False) nA) (fun _ h => h.elim) (fun _ _ => rfl)
      have s10 := nA.block hs
      have b10 := nA.block hd
      have g10a := nA.block g2
      have g10b := nA.block g3
      have g10c := nA.block g4
      have m10 := hm.nb nA
      have f10 := nA.cell hBf
      have r10 := nA.block hrL
      have n10 : Nb w V10 := hB.trans (nA.mono hB.size)
      have kW : Kq (XU 60 44) (fun k => k = BW ∨ k = BL) W V10 := Kq.of_nb nA
      have hsz : W.heap.size < V10.heap.size := by rw [hITB]; exact lt_bkc bIt
      have t10 : ∃ s, Boxed V10 BL 27 s ∧ V10.ownsRow w.heap.size 44 2 s (lbL is ((pre2 ++ [(⟨(k, at_), hk, ha0, ha1⟩ : PlV is.length)]).map (·.1))).length ((lbL is ((pre2 ++ [(⟨(k, at_), hk, ha0, ha1⟩ : PlV is.length)]).map (·.1))).flatMap lbC) := ⟨t, nA.block hbt, by rw [hsb2.out]; exact row_kq hrowt (Kq.of_nb (X := fun _ => false) (R := fun _ => False) nA) (fun _ h => h.elim) (fun _ _ => rfl)⟩
      rw [hV10, hITB]
      clear hV10 q0 q1 q2 f2 p0 p1 p2 p3 p4 p5 p6 p7 p8 p9 bIt
      have i0 := cell_of_row _ _ 0 _ _ _ bIt10
      have i1 := cell_of_row _ _ 1 _ _ _ bIt10
      have i2 := cell_of_row _ _ 2 _ _ _ bIt10
      have i3 := cell_of_row _ _ 3 _ _ _ bIt10
      have i4 := cell_of_row _ _ 4 _ _ _ bIt10
      have i5 := cell_of_row _ _ 5 _ _ _ bIt10
      have i6 := cell_of_row _ _ 6 _ _ _ bIt10
      have i7 := cell_of_row _ _ 7 _ _ _ bIt10
      have i8 := cell_of_row _ _ 8 _ _ _ bIt10
      have i9 := cell_of_row _ _ 9 _ _ _ bIt10
      have d0 := cell_of_row _ _ 0 _ _ _ s10
      have d2 := cell_of_row _ _ 2 _ _ _ b10
      have hk1 : (0 : Int) ≤ (k : Int) := by omega
      have hk2 : (k : Int) < (is.length : Int) := by omega
      refine wpIn_region_round (by kernel_rfl) (by kernel_rfl) ?_
      have hGd : Nb V10 V10.drew := drew1c V10
      change wpAnyIn _ _ _ _ _ _ 12 (List.toArray [false, false, false, false, false, false, false, false, false, false, false, false]) _ _
      refine stage (m := 0) (fuel := 12) (List.toArray [true, true, true, true, true, true, true, true, true, true, true, true]) (fun w' => Nb V10 w') hGd (fun hG => ?_)
      refine takeS (i := 0) (v := .agg #[.int .i64 kd, .int .i64 o1, .int .i64 o2, .int .i64 o3, .int .i64 o4, .int .i64 o5, .bool o6, .bool o7, .string nm, .int .u64 v]) rfl (by kernel_rfl) (by kernel_rfl) (by kernel_rfl) (by kernel_rfl) (by kernel_rfl) (fun _ _ _ h => h) (.inl ⟨by rfl, by intro w' hw; have h0 := hw.cell i0; have h1 := hw.cell i1; have h2 := hw.cell i2; have h3 := hw.cell i3; have h4 := hw.cell i4; have h5 := hw.cell i5; have h6 := hw.cell i6; have h7 := hw.cell i7; have h8 := hw.cell i8; have h9 := hw.cell i9; go_simp⟩) hG ?_
      simp only [Act.put, List.setIfInBounds_toArray, List.set_cons_zero, List.set_cons_succ]
      refine takeS (i := 1) (v := .int .u64 at_) rfl (by kernel_rfl) (by kernel_rfl) (by kernel_rfl) (by kernel_rfl) (by kernel_rfl) (fun _ _ _ h => h) (.inl ⟨by rfl, by intro w' hw; go_simp⟩) hG ?_
      simp only [Act.put, List.setIfInBounds_toArray, List.set_cons_zero, List.set_cons_succ]
      refine takeS (i := 2) (v := .map (some MB)) rfl (by kernel_rfl) (by kernel_rfl) (by kernel_rfl) (by kernel_rfl) (by kernel_rfl) (fun _ _ _ h => h) (.inl ⟨by rfl, by intro w' hw; have hc := hw.cell d0; go_simp⟩) hG ?_
      simp only [Act.put, List.setIfInBounds_toArray, List.set_cons_zero, List.set_cons_succ]
      refine takeS (i := 3) (v := .pointer (some ⟨ITB, 8, none⟩)) rfl (by kernel_rfl) (by kernel_rfl) (by kernel_rfl) (by kernel_rfl) (by kernel_rfl) (fun _ _ _ h => h) (.inl ⟨by rfl, by intro w' hw; go_simp⟩) hG ?_
      simp only [Act.put, List.setIfInBounds_toArray, List.set_cons_zero, List.set_cons_succ]
      refine takeS (i := 4) (v := .string nm) rfl (by kernel_rfl) (by kernel_rfl) (by kernel_rfl) (by kernel_rfl) (by kernel_rfl) (fun _ _ _ h => h) (.inl ⟨by rfl, by intro w' hw; have hc := hw.cell i8; go_simp⟩) hG ?_
      simp only [Act.put, List.setIfInBounds_toArray, List.set_cons_zero, List.set_cons_succ]
      refine takeS (i := 5) (v := .int .u64 TO) rfl (by kernel_rfl) (by kernel_rfl) (by kernel_rfl) (by kernel_rfl) (by kernel_rfl) (fun _ _ _ h => h) (.inl ⟨by rfl, by intro w' hw; have hc := look1_su (m10.nb hw) nm; rw [hTOh.out] at hc; go_simp⟩) hG ?_
      simp only [Act.put, List.setIfInBounds_toArray, List.set_cons_zero, List.set_cons_succ]
      refine takeS (i := 6) (v := .pointer (some ⟨w.heap.size, 2, none⟩)) rfl (by kernel_rfl) (by kernel_rfl) (by kernel_rfl) (by kernel_rfl) (by kernel_rfl) (fun _ _ _ h => h) (.inl ⟨by rfl, by intro w' hw; go_simp⟩) hG ?_
      simp only [Act.put, List.setIfInBounds_toArray, List.set_cons_zero, List.set_cons_succ]
      refine takeS (i := 7) (v := .slice (some ⟨g, 0, none⟩) is.length c2) rfl (by kernel_rfl) (by kernel_rfl) (by kernel_rfl) (by kernel_rfl) (by kernel_rfl) (fun _ _ _ h => h) (.inl ⟨by rfl, by intro w' hw; have hc := hw.cell d2; go_simp⟩) hG ?_
      simp only [Act.put, List.setIfInBounds_toArray, List.set_cons_zero, List.set_cons_succ]
      refine takeS (i := 8) (v := .int .i64 k) rfl (by kernel_rfl) (by kernel_rfl) (by kernel_rfl) (by kernel_rfl) (by kernel_rfl) (fun _ _ _ h => h) (.inl ⟨by rfl, by intro w' hw; go_simp⟩) hG ?_
      simp only [Act.put, List.setIfInBounds_toArray, List.set_cons_zero, List.set_cons_succ]
      refine takeS (i := 9) (v := .pointer (some ⟨g, k, none⟩)) rfl (by kernel_rfl) (by kernel_rfl) (by kernel_rfl) (by kernel_rfl) (by kernel_rfl) (fun _ _ _ h => h) (.inl ⟨by rfl, by intro w' hw; go_simp⟩) hG ?_
      simp only [Act.put, List.setIfInBounds_toArray, List.set_cons_zero, List.set_cons_succ]
      refine takeS (i := 10) (v := .bool f) rfl (by kernel_rfl) (by kernel_rfl) (by kernel_rfl) (by kernel_rfl) (by kernel_rfl) (fun _ _ _ h => h) (.inl ⟨by rfl, by intro w' hw; have hc := hw.cell f10; go_simp⟩) hG ?_
      simp only [Act.put, List.setIfInBounds_toArray, List.set_cons_zero, List.set_cons_succ]
      generalize V10.drew = Wd at hG ⊢
      refine onlyS (i := 11) (by kernel_rfl) rfl (by rfl) (fun K hK => ?_)
      go_simp
      refine ⟨trivial, callsIn_wide.2 ((hins.out Wd).mono ?_)⟩
      rintro r W5 ⟨fv, rfl, hIt, h5⟩
      have hG2 := hG
      replace hG := hG.trans h5
      refine hK.out _ _ hG (fun _ => ?_)
      clear hK K
      simp only [Act.put, List.setIfInBounds_toArray, List.set_cons_zero, List.set_cons_succ]
      refine ⟨rfl, ?_⟩
      refine wpAnyIn_done (by kernel_rfl) ?_ _
      clear i0 i1 i2 i3 i4 i5 i6 i7 i8 i9 d0 d2
      gi_wp2
      obtain ⟨gf, lb, rfl, heg, hsq⟩ := hIt
      have e2 := hG.block g10a
      have e3 := hG.block g10b
      have e4 := hG.block g10c
      have hwd : V10.heap.size ≤ Wd.heap.size := hG2.size
      have hw5 : Wd.heap.size ≤ W5.heap.size := h5.size
      have hlB : BL < V10.heap.size := by omega
      refine range_boxN (F := Fence.wide.inRound (W6.heap.size + 1)) (n := 3) (l₀ := W6.heap.size + 1) rfl (hG.block r10) (by decide) (gf := gf) (lb := lb) rfl trivial heg
        (hsq (XT 60) ⟨fun _ _ => rfl, fun _ _ => rfl, fun _ _ => rfl, fun _ h => XT_cells h⟩ (fun _ _ => rfl) (fun k => k = BW ∨ k = C2 ∨ k = C3 ∨ k = C4 ∨ k = W5.heap.size) 1 (by rintro k (h | h | h | h | h) <;> omega) 2)
        (fun h k => Kq.trans h k) (fun W o _ => Kq.of_nb (Below.alloc (Below.refl _ _) (Nat.le_refl _) _)) (fun W o o' _ => Kq.putObj W _ _ (.inr (.inr (.inr (.inr rfl))))) (Below.refl _ _) (fun _ => rfl)
        (fun (ys : List In7) V => (∃ s, Boxed V BW 26 s ∧ V.ownsRow w.heap.size 60 1 s (WL ++ ys).length (w32 (WL ++ ys)) ∧ True) ∧ ys.all okI = true ∧ Kq (XT 60) (fun k => k = BW) W5 V ∧ Below w.heap.size w V)
        (fun c ys V => c = .ret ∧ ys.all okI = false ∧ V.heap[C2]? = some (.cells #[.slice none 0 0] 26 (0, 0)) ∧ V.heap[C3]? = some (.cells #[.slice none 0 0] 27 (0, 0)) ∧ V.heap[C4]? = some (.cells #[.int .i64 191] 28 (0, 0)) ∧ Kq (XT 60) (fun k => k = BW ∨ k = C2 ∨ k = C3 ∨ k = C4) W5 V ∧ Below w.heap.size w V)
        (OwnFrom.and (Own.from (holdsRow_own w.heap.size BW 26 60 1 (fun (ys : List In7) => (WL ++ ys).length) (fun ys => w32 (WL ++ ys)) (fun _ _ => True)) _) (OwnFrom.and (ownFrom_pure _ (fun (ys : List In7) => ys.all okI = true)) (OwnFrom.and (kq_own (Nat.le_refl _)) (ownFrom_below (Nat.le_refl _) (by omega)))))
        (fun c s A B row hs hg hr => ⟨hs.1, hs.2.1, (hg.block C2 (lt_bkc hs.2.2.1) (fun e => by have := (hr _ e.symm).1; omega)).trans hs.2.2.1, (hg.block C3 (lt_bkc hs.2.2.2.1) (fun e => by have := (hr _ e.symm).1; omega)).trans hs.2.2.2.1, (hg.block C4 (lt_bkc hs.2.2.2.2.1) (fun e => by have := (hr _ e.symm).1; omega)).trans hs.2.2.2.2.1, kq_own (β := List In7) (Nat.le_refl _) s A B row hs.2.2.2.2.2.1 hg hr, ownFrom_below (β := List In7) (Nat.le_refl _) (by omega) s A B row hs.2.2.2.2.2.2 hg hr⟩)
        ⟨⟨s, hG.block x10, by simpa using row_kq w10 (Kq.of_nb (X := fun _ => false) (R := fun _ => False) hG) (fun _ h => h.elim) (fun _ _ => rfl), trivial⟩, rfl, Kq.refl _, n10.trans hG⟩
        (fun (x : In7) (Bx : Nat) => { tmps := #[.agg #[.slice (some ⟨b, off, none⟩) is.length cap, .int .u64 base, .slice (some ⟨g, 0, none⟩) is.length c2], .pointer (some ⟨w.heap.size, 0, none⟩), .pointer (some ⟨C2, 0, none⟩), .pointer (some ⟨C3, 0, none⟩), .pointer (some ⟨C4, 0, none⟩), .pointer (some ⟨BW, 0, none⟩), .pointer (some ⟨BL, 0, none⟩), .pointer (some ⟨BS, 0, none⟩), .int .i64 k, .int .u64 at_, .pointer (some ⟨ITB, 0, none⟩), .pointer (some ⟨Bx, 0, none⟩), undef, undef, .agg #[.slice (some ⟨b, off, none⟩) is.length cap, .int .u64 base, .slice (some ⟨g, 0, none⟩) is.length c2], .map (some MB), .agg #[.slice (some ⟨b, off, none⟩) is.length cap, .int .u64 base, .slice (some ⟨g, 0, none⟩) is.length c2], .func (.func 60) #[] #[.pointer (some ⟨DB, 0, none⟩)], .int .i64 k, .int .u64 at_, .pointer (some ⟨w.heap.size, 0, none⟩), .slice (some ⟨b, off, none⟩) is.length cap, .int .i64 k, .pointer (some ⟨b, off + k * 10, none⟩), .agg #[.int .i64 kd, .int .i64 o1, .int .i64 o2, .int .i64 o3, .int .i64 o4, .int .i64 o5, .bool o6, .bool o7, .string nm, .int .u64 v], .pointer (some ⟨ITB, 0, none⟩), .int .i64 kd, .bool false, undef, undef, undef, undef, undef, undef, undef, .agg #[.int .i64 kd, .int .i64 o1, .int .i64 o2, .int .i64 o3, .int .i64 o4, .int .i64 o5, .bool o6, .bool o7, .string nm, .int .u64 v], .int .u64 at_, .map (some MB), .pointer (some ⟨ITB, 8, none⟩), .string nm, .int .u64 TO, .pointer (some ⟨w.heap.size, 2, none⟩), .slice (some ⟨g, 0, none⟩) is.length c2, .int .i64 k, .pointer (some ⟨g, k, none⟩), .bool f, .func (.func gf) #[] lb, .agg (i7C x).toArray, undef, undef, undef, undef, undef, undef, undef, undef, undef, undef, undef, undef, undef], defers := [] })
        (fun x => .cells (i7C x).toArray 37 (0, 0)) (fun _ => rfl) ?assign2 ?body2 ?done2 ?stop2
      case assign2 =>
        rintro l3 ⟨x1, x2, x3, x4, x5, x6, x7⟩ V K hK
        simp only [i7C] at hK ⊢
        gi_wp2
        first | exact hK | simpa using hK
      case body2 =>
        rintro l3 ys ⟨x1, x2, x3, x4, x5, x6, x7⟩ V Bx hBx hob3 hIx ⟨⟨s3, hs3, hrow3, -⟩, hgd3, hkq3, hB3⟩ hlen3
        have hCV := hC.of_nb hB3
        have hBs3 := hB3.size
        have ka := hkq3.block (k := C2) (by omega) e2 rfl
        have kb := hkq3.block (k := C3) (by omega) e3 rfl
        have kc := hkq3.block (k := C4) (by omega) e4 rfl
        cases hg3 : okI (x1, x2, x3, x4, x5, x6, x7)
        · have henc := enc_bad _ hIx hg3 V hCV
          simp only [i7C] at hob3 henc ⊢
          obtain ⟨z, p0, p1, p2, p3, p4, p5, p6⟩ := cells7 hob3
          replace henc := Lib.hid henc
          clear hob3
          gi_wp2
          refine ⟨trivial, (callsIn_wide.2 henc.out).mono ?_⟩
          rintro r V2 ⟨rfl, hv2⟩
          have ja := hv2.block ka
          have jb := hv2.block kb
          have jc := hv2.block kc
          have m0 := cell_of_row _ _ 0 _ _ _ ja
          have m1 := cell_of_row _ _ 0 _ _ _ jb
          have m2 := cell_of_row _ _ 0 _ _ _ jc
          have u0 := frozen_bkc ja 0
          have u1 := frozen_bkc jb 0
          have u2 := frozen_bkc jc 0
          have hV2s := hv2.size
          have hC23 : C2 ≠ C3 := by omega
          have hC24 : C2 ≠ C4 := by omega
          have hC34 : C3 ≠ C4 := by omega
          have h3 := set3c hC23 hC24 hC34 ja jb jc (.slice none 0 0) (.slice none 0 0) (.int .i64 191)
          have hqv : Kq (XT 60) (fun k => k = C2 ∨ k = C3 ∨ k = C4) V (((V2.setCell ⟨C2, 0, none⟩ (.slice none 0 0)).setCell ⟨C3, 0, none⟩ (.slice none 0 0)).setCell ⟨C4, 0, none⟩ (.int .i64 191)) :=
            (((Kq.of_nb hv2).setc C2 _ (.inl rfl)).setc C3 _ (.inr (.inl rfl))).setc C4 _ (.inr (.inr rfl))
          have hBe : Below w.heap.size w (((V2.setCell ⟨C2, 0, none⟩ (.slice none 0 0)).setCell ⟨C3, 0, none⟩ (.slice none 0 0)).setCell ⟨C4, 0, none⟩ (.int .i64 191)) :=
            (((hB3.trans (hv2.mono hBs3)).setCell (p := ⟨C2, 0, none⟩) (by show _ ≤ C2; omega) _).setCell (p := ⟨C3, 0, none⟩) (by show _ ≤ C3; omega) _).setCell (p := ⟨C4, 0, none⟩) (by show _ ≤ C4; omega) _
          replace h3 := Lib.hid h3
          replace hqv := Lib.hid hqv
          replace hBe := Lib.hid hBe
          have hg3h := Lib.hid hg3
          clear hg3 ja jb jc ka kb kc p0 p1 p2 p3 p4 p5 p6
          gi_wp2
          refine ⟨⟨hqv.out.1, fun j o hj hA hc => hqv.out.block (by omega) hA (XT_cells hc)⟩, hqv.out.mono (fun _ h => .inr (by rcases h with h | h | h <;> simp [h])), by first | rfl | trivial, ?_, h3.out.1, h3.out.2.1, h3.out.2.2, (hkq3.mono (fun _ h => .inl h)).trans (hqv.out.mono (fun _ h => .inr h)), hBe.out⟩
          first | (rw [List.all_append, List.all_cons, hg3h.out]; simp) | simp [hg3h.out]
        · have henc := enc_ok _ hIx hg3 V hCV
          obtain ⟨WV, hWV⟩ : ∃ WV, wdI (x1, x2, x3, x4, x5, x6, x7) = WV := ⟨_, rfl⟩
          rw [hWV] at henc
          simp only [i7C] at hob3 henc ⊢
          obtain ⟨z, p0, p1, p2, p3, p4, p5, p6⟩ := cells7 hob3
          replace henc := Lib.hid henc
          replace hWV := Lib.hid hWV
          have hg3h := Lib.hid hg3
          clear hob3 ka kb kc hg3
          gi_wp2
          refine ⟨trivial, (callsIn_wide.2 henc.out).mono ?_⟩
          rintro r V2 ⟨rfl, hv2⟩
          have hs4 : Boxed V2 BW 26 s3 := hv2.block hs3
          have hr4 := row_kq hrow3 (Kq.of_nb (X := fun _ => false) (R := fun _ => False) hv2) (fun _ h => h.elim) (fun _ _ => rfl)
          have hc3 := hs4.cell
          have hf3 := hs4.frozen
          have hV2s := hv2.size
          have hWl : (WL ++ ys).length ≤ 800100 := by rw [List.length_append]; omega
          obtain ⟨NW, hNW⟩ : ∃ NW, (WL ++ ys).length = NW := ⟨_, rfl⟩
          rw [hNW] at hr4 hWl
          replace hNW := Lib.hid hNW
          clear p0 p1 p2 p3 p4 p5 p6
          gi_wp2_with (gi_at_builtin; refine wpListIn_append_own _ rfl _ _ 26 rfl w.heap.size 60 iu _ 1 4 Tryd.underlying26 hiu hu0 hu1 hu2 rfl (by decide) _ _ _ rfl (hr4.alloc _) ⟨V2.heap.size, 0, none⟩ 1 1 [.int .u32 WV] rfl rfl ?d1 ?d2 ?d3 ?d4 ?d5 ?_)
          case d1 =>
            intro j u hj
            first | exact hj | (have e : ({ block := V2.heap.size, off := 0 } : Addr).add j = ⟨V2.heap.size, j, none⟩ := by simp [Addr.add]; intro h; omega
                                rw [e]
                                exact (cell_of_row _ _ j _ _ _ (new_bkc _ _ rfl)).trans ((List.getElem?_toArray ..).trans hj))
          case d2 =>
            intro u hu
            rw [List.mem_singleton] at hu
            subst hu
            rfl
          case d3 => unfold maxLen; omega
          case d4 => omega
          case d5 => first | omega | (rw [World.size_alloc]; omega)
          intro v' w1 hown' hgrow _
          obtain ⟨g', cap', rfl⟩ := ownsRow_succ hown'
          obtain ⟨hv1, hv3, hr3, hk3, hb3⟩ := hs4.appended (by decide) hr4 (by omega) (by omega) hown' hgrow
          have hq : Kq (XT 60) (fun k => k = BW) V (w1.setCell ⟨BW, 0, none⟩ (.slice (some ⟨g', 0, none⟩) (NW + 1) cap')) :=
            (Kq.of_nb hv2).trans (((Kq.of_nb ((Nb.refl V2).alloc _)).trans (app_kqT (hr4.alloc _) hgrow)).trans (Kq.set _ _ _ rfl))
          have hc5 := hv1.cell
          have hf5 := hv1.frozen
          have hBe : Below w.heap.size w (w1.setCell ⟨BW, 0, none⟩ (.slice (some ⟨g', 0, none⟩) (NW + 1) cap')) := (hB3.trans (hv2.mono hBs3)).trans hb3
          replace hq := Lib.hid hq
          replace hBe := Lib.hid hBe
          replace hr3 := Lib.hid hr3
          replace hv3 := Lib.hid hv3
          clear hown' hgrow hb3 hk3 hc3 hf3
          gi_wp2
          have e1 : (WL ++ (ys ++ [(x1, x2, x3, x4, x5, x6, x7)])).length = NW + 1 := by rw [← List.append_assoc, List.length_append, hNW.out]; rfl
          have e5 : w32 (WL ++ (ys ++ [(x1, x2, x3, x4, x5, x6, x7)])) = w32 (WL ++ ys) ++ [.int .u32 WV] := by rw [← List.append_assoc]; unfold w32; rw [List.map_append]; rw [← hWV.out]; rfl
          refine ⟨⟨hq.out.1, fun j o hj hA hc => hq.out.block (by omega) hA (XT_cells hc)⟩, hq.out.mono (fun _ h => .inl h), ⟨_, hv3.out, by rw [e1, e5]; exact hr3.out, trivial⟩, ?_, hkq3.trans hq.out, hBe.out⟩
          rw [List.all_append, hgd3, List.all_cons, hg3h.out]
          rfl
      case done2 =>
        rintro xs V rfl ⟨⟨s3, hs3, hrow3, -⟩, hgd3, hkq3, hB3⟩
        have kV : Kq (XT 60) (fun k => k = BW) V10 V := (Kq.of_nb hG).trans hkq3
        have kWV : Kq (XU 60 44) (fun k => k = BW ∨ k = BL) W V := kW.trans (kq_x (kV.mono (fun _ h => .inl h)) (fun o h => XU_l h))
        obtain ⟨t, hbt5, hrt5⟩ := t10
        have hrt6 := row_kq hrt5 kV (fun g hg cs fr h => by rw [hg, show V10.heap[BW]? = _ from x10] at h; cases h) (fun _ _ => rfl)
        have hbt6 : Boxed V BL 27 t := kV.block (by omega) hbt5 rfl
        have hW6 : W6.heap.size ≤ W.heap.size := hBl
        have e1 : Hid ((inL is fs ST ((pre2 ++ [(⟨(k, at_), hk, ha0, ha1⟩ : PlV is.length)]).map (·.1))).all okI = true) := Lib.hid (by rw [hst.out, List.all_append, hgd, hgd3]; rfl)
        gi_wp2
        refine ⟨⟨kWV.1, fun j o hj hA hc => kWV.block (by omega) hA (XU_cells hc)⟩, Kn.of (Nat.le_refl _) (kWV.mono (fun _ h => by rcases h with h | h <;> simp [h])) hB hB3, ⟨s3, hs3, by rw [hst.out]; exact hrow3, trivial⟩, e1.out, ⟨t, hbt6, hrt6, trivial⟩, hkq.trans kWV, hB3⟩
      case stop2 =>
        rintro c ys V hpre ⟨rfl, hbad, ga, gb, gc, hkq3, hB3⟩
        have kV : Kq (XT 60) (fun k => k = BW ∨ k = C2 ∨ k = C3 ∨ k = C4) V10 V := (Kq.of_nb hG).trans hkq3
        have kWV : Kq (XU 60 44) (fun k => k = BW ∨ k = BL ∨ k = C2 ∨ k = C3 ∨ k = C4) W V := (kW.mono (fun _ h => by rcases h with h | h <;> simp [h])).trans (kq_x (kV.mono (fun _ h => by rcases h with h | h | h | h <;> simp [h])) (fun o h => XU_l h))
        have hW6 : W6.heap.size ≤ W.heap.size := hBl
        have e1 : Hid ((inL is fs ST ((pre2 ++ [(⟨(k, at_), hk, ha0, ha1⟩ : PlV is.length)]).map (·.1))).all okI = false) := Lib.hid (by
          obtain ⟨ts, rfl⟩ := hpre
          rw [hst.out, List.all_append, List.all_append, hbad]
          simp)
        gi_wp2
        refine ⟨⟨kWV.1, fun j o hj hA hc => kWV.block (by omega) hA (XU_cells hc)⟩, Kn.of (Nat.le_refl _) (kWV.mono (fun _ h => by rcases h with h | h | h | h | h <;> simp [h])) hB hB3, by first | rfl | trivial, e1.out, ga, gb, gc, hB3⟩

    · have hsb2 := hsb.out
      rw [if_pos (by simpa using h2)] at hsb2
      replace hsb2 := Lib.hid hsb2
      clear hsb
      have hfl := flat_lb LBS
      gi_wp2_with (gi_at_builtin; refine wpListIn_append_own _ rfl _ _ 27 rfl w.heap.size 44 ib _ 2 24 Tryd.underlying27 hib hl0 hl1 hl2 rfl (by decide) _ _ _ rfl ((hrowt.alloc _).alloc _) ⟨W.heap.size + 1, 0, none⟩ 1 1 (lbC (nm, at_)) rfl rfl ?c1 ?c2 ?c3 ?c4 ?c5 ?_)
      case c1 =>
        intro j u hj
        exact hj
      case c2 => exact one_lb _
      case c3 => unfold maxLen; omega
      case c4 => omega
      case c5 => have := hB.size; omega
      intro v' w1 hown' hgrow _
      obtain ⟨g', cap', rfl⟩ := ownsRow_succ hown'
      obtain ⟨hv1, hv2, hr2, hk2, hb2⟩ := (hbt.alloc _).appended (by decide) (hrowt.alloc _) (by rw [World.size_alloc]; omega) (by omega) hown' hgrow
      have kA : Kq (XT 44) (fun k => k = BL) (W.alloc (.cells #[.int .i64 kd, .int .i64 o1, .int .i64 o2, .int .i64 o3, .int .i64 o4, .int .i64 o5, .bool o6, .bool o7, .string nm, .int .u64 v] 39)) (w1.setCell ⟨BL, 0, none⟩ (.slice (some ⟨g', 0, none⟩) (LBS.length + 1) cap')) :=
        ((Kq.of_nb ((Nb.refl _).alloc _)).trans (app_kqT ((hrowt.alloc _).alloc _) hgrow)).trans (Kq.set _ _ _ rfl)
      have hc5 := hv1.cell
      have hf5 := hv1.frozen
      have hBe : Below w.heap.size w (w1.setCell ⟨BL, 0, none⟩ (.slice (some ⟨g', 0, none⟩) (LBS.length + 1) cap')) := (hB.trans (Below.alloc (Below.refl _ _) hB.size _)).trans hb2
      replace hBe := Lib.hid hBe
      replace kA := Lib.hid kA
      replace hv2 := Lib.hid hv2
      replace hr2 := Lib.hid hr2
      clear hown' hgrow hb2 hk2 q0 q1 q2 f2 p0 p1 p2 p3 p4 p5 p6 p7 p8 p9
      gi_wp2
      obtain ⟨ITB, hITB⟩ : ∃ ITB, W.heap.size = ITB := ⟨_, rfl⟩
      obtain ⟨V10, hV10⟩ : ∃ V10, w1.setCell ⟨BL, 0, none⟩ (.slice (some ⟨g', 0, none⟩) (LBS.length + 1) cap') = V10 := ⟨_, rfl⟩
      rw [hV10] at hBe kA hv2 hr2
      rw [hITB] at bIt
      have nk : Kq (XT 44) (fun k => k = BL) W V10 := (Kq.of_nb nA).trans kA.out
      have bIt10 := kA.out.block (by omega) bIt rfl
      have x10 : Boxed V10 BW 26 s := nk.block (by omega) hbx rfl
      have w10 := row_kq hrow nk (fun g hg cs fr h => by rw [hg, show W.heap[BL]? = _ from hbt] at h; cases h) (fun _ _ => rfl)
      have s10 := nk.block (by omega) hs rfl
      have b10 := nk.block (by omega) hd rfl
      have g10a := nk.block (by omega) g2 rfl
      have g10b := nk.block (by omega) g3 rfl
      have g10c := nk.block (by omega) g4 rfl
      have m10 : SMapu V10 MB ST := hm.kept (fun o ho => nk.block (by omega) ho (by obtain ⟨es, ck, h, -⟩ := hm; rw [ho] at h; cases h; rfl))
      have f10 := (hFh.out.nb hBe.out) k f hff2
      have r10 := nk.block (by omega) hrL rfl
      have n10 : Nb w V10 := hBe.out
      have kW : Kq (XU 60 44) (fun k => k = BW ∨ k = BL) W V10 := kq_x (nk.mono (fun _ h => .inr h)) (fun o h => XU_r h)
      have hsz : W.heap.size < V10.heap.size := by rw [hITB]; exact lt_bkc bIt10
      have t10 : ∃ s, Boxed V10 BL 27 s ∧ V10.ownsRow w.heap.size 44 2 s (lbL is ((pre2 ++ [(⟨(k, at_), hk, ha0, ha1⟩ : PlV is.length)]).map (·.1))).length ((lbL is ((pre2 ++ [(⟨(k, at_), hk, ha0, ha1⟩ : PlV is.length)]).map (·.1))).flatMap lbC) := ⟨_, hv2.out, by rw [hsb2.out]; simpa using hr2.out⟩
      rw [hV10, hITB]
      clear hV10
      have i0 := cell_of_row _ _ 0 _ _ _ bIt10
      have i1 := cell_of_row _ _ 1 _ _ _ bIt10
      have i2 := cell_of_row _ _ 2 _ _ _ bIt10
      have i3 := cell_of_row _ _ 3 _ _ _ bIt10
      have i4 := cell_of_row _ _ 4 _ _ _ bIt10
      have i5 := cell_of_row _ _ 5 _ _ _ bIt10
      have i6 := cell_of_row _ _ 6 _ _ _ bIt10
      have i7 := cell_of_row _ _ 7 _ _ _ bIt10
      have i8 := cell_of_row _ _ 8 _ _ _ bIt10
      have i9 := cell_of_row _ _ 9 _ _ _ bIt10
      have d0 := cell_of_row _ _ 0 _ _ _ s10
      have d2 := cell_of_row _ _ 2 _ _ _ b10
      have hk1 : (0 : Int) ≤ (k : Int) := by omega
      have hk2 : (k : Int) < (is.length : Int) := by omega
      refine wpIn_region_round (by kernel_rfl) (by kernel_rfl) ?_
      have hGd : Nb V10 V10.drew := drew1c V10
      change wpAnyIn _ _ _ _ _ _ 12 (List.toArray [false, false, false, false, false, false, false, false, false, false, false, false]) _ _
      refine stage (m := 0) (fuel := 12) (List.toArray [true, true, true, true, true, true, true, true, true, true, true, true]) (fun w' => Nb V10 w') hGd (fun hG => ?_)
      refine takeS (i := 0) (v := .agg #[.int .i64 kd, .int .i64 o1, .int .i64 o2, .int .i64 o3, .int .i64 o4, .int .i64 o5, .bool o6, .bool o7, .string nm, .int .u64 v]) rfl (by kernel_rfl) (by kernel_rfl) (by kernel_rfl) (by kernel_rfl) (by kernel_rfl) (fun _ _ _ h => h) (.inl ⟨by rfl, by intro w' hw; have h0 := hw.cell i0; have h1 := hw.cell i1; have h2 := hw.cell i2; have h3 := hw.cell i3; have h4 := hw.cell i4; have h5 := hw.cell i5; have h6 := hw.cell i6; have h7 := hw.cell i7; have h8 := hw.cell i8; have h9 := hw.cell i9; go_simp⟩) hG ?_
      simp only [Act.put, List.setIfInBounds_toArray, List.set_cons_zero, List.set_cons_succ]
      refine takeS (i := 1) (v := .int .u64 at_) rfl (by kernel_rfl) (by kernel_rfl) (by kernel_rfl) (by kernel_rfl) (by kernel_rfl) (fun _ _ _ h => h) (.inl ⟨by rfl, by intro w' hw; go_simp⟩) hG ?_
      simp only [Act.put, List.setIfInBounds_toArray, List.set_cons_zero, List.set_cons_succ]
      refine takeS (i := 2) (v := .map (some MB)) rfl (by kernel_rfl) (by kernel_rfl) (by kernel_rfl) (by kernel_rfl) (by kernel_rfl) (fun _ _ _ h => h) (.inl ⟨by rfl, by intro w' hw; have hc := hw.cell d0; go_simp⟩) hG ?_
      simp only [Act.put, List.setIfInBounds_toArray, List.set_cons_zero, List.set_cons_succ]
      refine takeS (i := 3) (v := .pointer (some ⟨ITB, 8, none⟩)) rfl (by kernel_rfl) (by kernel_rfl) (by kernel_rfl) (by kernel_rfl) (by kernel_rfl) (fun _ _ _ h => h) (.inl ⟨by rfl, by intro w' hw; go_simp⟩) hG ?_
      simp only [Act.put, List.setIfInBounds_toArray, List.set_cons_zero, List.set_cons_succ]
      refine takeS (i := 4) (v := .string nm) rfl (by kernel_rfl) (by kernel_rfl) (by kernel_rfl) (by kernel_rfl) (by kernel_rfl) (fun _ _ _ h => h) (.inl ⟨by rfl, by intro w' hw; have hc := hw.cell i8; go_simp⟩) hG ?_
      simp only [Act.put, List.setIfInBounds_toArray, List.set_cons_zero, List.set_cons_succ]
      refine takeS (i := 5) (v := .int .u64 TO) rfl (by kernel_rfl) (by kernel_rfl) (by kernel_rfl) (by kernel_rfl) (by kernel_rfl) (fun _ _ _ h => h) (.inl ⟨by rfl, by intro w' hw; have hc := look1_su (m10.nb hw) nm; rw [hTOh.out] at hc; go_simp⟩) hG ?_
      simp only [Act.put, List.setIfInBounds_toArray, List.set_cons_zero, List.set_cons_succ]
      refine takeS (i := 6) (v := .pointer (some ⟨w.heap.size, 2, none⟩)) rfl (by kernel_rfl) (by kernel_rfl) (by kernel_rfl) (by kernel_rfl) (by kernel_rfl) (fun _ _ _ h => h) (.inl ⟨by rfl, by intro w' hw; go_simp⟩) hG ?_
      simp only [Act.put, List.setIfInBounds_toArray, List.set_cons_zero, List.set_cons_succ]
      refine takeS (i := 7) (v := .slice (some ⟨g, 0, none⟩) is.length c2) rfl (by kernel_rfl) (by kernel_rfl) (by kernel_rfl) (by kernel_rfl) (by kernel_rfl) (fun _ _ _ h => h) (.inl ⟨by rfl, by intro w' hw; have hc := hw.cell d2; go_simp⟩) hG ?_
      simp only [Act.put, List.setIfInBounds_toArray, List.set_cons_zero, List.set_cons_succ]
      refine takeS (i := 8) (v := .int .i64 k) rfl (by kernel_rfl) (by kernel_rfl) (by kernel_rfl) (by kernel_rfl) (by kernel_rfl) (fun _ _ _ h => h) (.inl ⟨by rfl, by intro w' hw; go_simp⟩) hG ?_
      simp only [Act.put, List.setIfInBounds_toArray, List.set_cons_zero, List.set_cons_succ]
      refine takeS (i := 9) (v := .pointer (some ⟨g, k, none⟩)) rfl (by kernel_rfl) (by kernel_rfl) (by kernel_rfl) (by kernel_rfl) (by kernel_rfl) (fun _ _ _ h => h) (.inl ⟨by rfl, by intro w' hw; go_simp⟩) hG ?_
      simp only [Act.put, List.setIfInBounds_toArray, List.set_cons_zero, List.set_cons_succ]
      refine takeS (i := 10) (v := .bool f) rfl (by kernel_rfl) (by kernel_rfl) (by kernel_rfl) (by kernel_rfl) (by kernel_rfl) (fun _ _ _ h => h) (.inl ⟨by rfl, by intro w' hw; have hc := hw.cell f10; go_simp⟩) hG ?_
      simp only [Act.put, List.setIfInBounds_toArray, List.set_cons_zero, List.set_cons_succ]
      generalize V10.drew = Wd at hG ⊢
      refine onlyS (i := 11) (by kernel_rfl) rfl (by rfl) (fun K hK => ?_)
      go_simp
      refine ⟨trivial, callsIn_wide.2 ((hins.out Wd).mono ?_)⟩
      rintro r W5 ⟨fv, rfl, hIt, h5⟩
      have hG2 := hG
      replace hG := hG.trans h5
      refine hK.out _ _ hG (fun _ => ?_)
      clear hK K
      simp only [Act.put, List.setIfInBounds_toArray, List.set_cons_zero, List.set_cons_succ]
      refine ⟨rfl, ?_⟩
      refine wpAnyIn_done (by kernel_rfl) ?_ _
      clear i0 i1 i2 i3 i4 i5 i6 i7 i8 i9 d0 d2
      gi_wp2
      obtain ⟨gf, lb, rfl, heg, hsq⟩ := hIt
      have e2 := hG.block g10a
      have e3 := hG.block g10b
      have e4 := hG.block g10c
      have hwd : V10.heap.size ≤ Wd.heap.size := hG2.size
      have hw5 : Wd.heap.size ≤ W5.heap.size := h5.size
      have hlB : BL < V10.heap.size := by omega
      refine range_boxN (F := Fence.wide.inRound (W6.heap.size + 1)) (n := 3) (l₀ := W6.heap.size + 1) rfl (hG.block r10) (by decide) (gf := gf) (lb := lb) rfl trivial heg
        (hsq (XT 60) ⟨fun _ _ => rfl, fun _ _ => rfl, fun _ _ => rfl, fun _ h => XT_cells h⟩ (fun _ _ => rfl) (fun k => k = BW ∨ k = C2 ∨ k = C3 ∨ k = C4 ∨ k = W5.heap.size) 1 (by rintro k (h | h | h | h | h) <;> omega) 2)
        (fun h k => Kq.trans h k) (fun W o _ => Kq.of_nb (Below.alloc (Below.refl _ _) (Nat.le_refl _) _)) (fun W o o' _ => Kq.putObj W _ _ (.inr (.inr (.inr (.inr rfl))))) (Below.refl _ _) (fun _ => rfl)
        (fun (ys : List In7) V => (∃ s, Boxed V BW 26 s ∧ V.ownsRow w.heap.size 60 1 s (WL ++ ys).length (w32 (WL ++ ys)) ∧ True) ∧ ys.all okI = true ∧ Kq (XT 60) (fun k => k = BW) W5 V ∧ Below w.heap.size w V)
        (fun c ys V => c = .ret ∧ ys.all okI = false ∧ V.heap[C2]? = some (.cells #[.slice none 0 0] 26 (0, 0)) ∧ V.heap[C3]? = some (.cells #[.slice none 0 0] 27 (0, 0)) ∧ V.heap[C4]? = some (.cells #[.int .i64 191] 28 (0, 0)) ∧ Kq (XT 60) (fun k => k = BW ∨ k = C2 ∨ k = C3 ∨ k = C4) W5 V ∧ Below w.heap.size w V)
        (OwnFrom.and (Own.from (holdsRow_own w.heap.size BW 26 60 1 (fun (ys : List In7) => (WL ++ ys).length) (fun ys => w32 (WL ++ ys)) (fun _ _ => True)) _) (OwnFrom.and (ownFrom_pure _ (fun (ys : List In7) => ys.all okI = true)) (OwnFrom.and (kq_own (Nat.le_refl _)) (ownFrom_below (Nat.le_refl _) (by omega)))))
        (fun c s A B row hs hg hr => ⟨hs.1, hs.2.1, (hg.block C2 (lt_bkc hs.2.2.1) (fun e => by have := (hr _ e.symm).1; omega)).trans hs.2.2.1, (hg.block C3 (lt_bkc hs.2.2.2.1) (fun e => by have := (hr _ e.symm).1; omega)).trans hs.2.2.2.1, (hg.block C4 (lt_bkc hs.2.2.2.2.1) (fun e => by have := (hr _ e.symm).1; omega)).trans hs.2.2.2.2.1, kq_own (β := List In7) (Nat.le_refl _) s A B row hs.2.2.2.2.2.1 hg hr, ownFrom_below (β := List In7) (Nat.le_refl _) (by omega) s A B row hs.2.2.2.2.2.2 hg hr⟩)
        ⟨⟨s, hG.block x10, by simpa using row_kq w10 (Kq.of_nb (X := fun _ => false) (R := fun _ => False) hG) (fun _ h => h.elim) (fun _ _ => rfl), trivial⟩, rfl, Kq.refl _, n10.trans hG⟩
        (fun (x : In7) (Bx : Nat) => { tmps := #[.agg #[.slice (some ⟨b, off, none⟩) is.length cap, .int .u64 base, .slice (some ⟨g, 0, none⟩) is.length c2], .pointer (some ⟨w.heap.size, 0, none⟩), .pointer (some ⟨C2, 0, none⟩), .pointer (some ⟨C3, 0, none⟩), .pointer (some ⟨C4, 0, none⟩), .pointer (some ⟨BW, 0, none⟩), .pointer (some ⟨BL, 0, none⟩), .pointer (some ⟨BS, 0, none⟩), .int .i64 k, .int .u64 at_, .pointer (some ⟨ITB, 0, none⟩), .pointer (some ⟨Bx, 0, none⟩), undef, undef, .agg #[.slice (some ⟨b, off, none⟩) is.length cap, .int .u64 base, .slice (some ⟨g, 0, none⟩) is.length c2], .map (some MB), .agg #[.slice (some ⟨b, off, none⟩) is.length cap, .int .u64 base, .slice (some ⟨g, 0, none⟩) is.length c2], .func (.func 60) #[] #[.pointer (some ⟨DB, 0, none⟩)], .int .i64 k, .int .u64 at_, .pointer (some ⟨w.heap.size, 0, none⟩), .slice (some ⟨b, off, none⟩) is.length cap, .int .i64 k, .pointer (some ⟨b, off + k * 10, none⟩), .agg #[.int .i64 kd, .int .i64 o1, .int .i64 o2, .int .i64 o3, .int .i64 o4, .int .i64 o5, .bool o6, .bool o7, .string nm, .int .u64 v], .pointer (some ⟨ITB, 0, none⟩), .int .i64 kd, .bool true, t, .pointer (some ⟨ITB, 8, none⟩), .string nm, .int .u64 at_, .agg #[.string nm, .int .u64 at_], .slice (some ⟨ITB + 1, 0, none⟩) 1 1, .slice (some ⟨g', 0, none⟩) (LBS.length + 1) cap', .agg #[.int .i64 kd, .int .i64 o1, .int .i64 o2, .int .i64 o3, .int .i64 o4, .int .i64 o5, .bool o6, .bool o7, .string nm, .int .u64 v], .int .u64 at_, .map (some MB), .pointer (some ⟨ITB, 8, none⟩), .string nm, .int .u64 TO, .pointer (some ⟨w.heap.size, 2, none⟩), .slice (some ⟨g, 0, none⟩) is.length c2, .int .i64 k, .pointer (some ⟨g, k, none⟩), .bool f, .func (.func gf) #[] lb, .agg (i7C x).toArray, undef, undef, undef, undef, undef, undef, undef, undef, undef, undef, undef, undef, undef], defers := [] })
        (fun x => .cells (i7C x).toArray 37 (0, 0)) (fun _ => rfl) ?assign3 ?body3 ?done3 ?stop3
      case assign3 =>
        rintro l3 ⟨x1, x2, x3, x4, x5, x6, x7⟩ V K hK
        simp only [i7C] at hK ⊢
        gi_wp2
        first | exact hK | simpa using hK
      case body3 =>
        rintro l3 ys ⟨x1, x2, x3, x4, x5, x6, x7⟩ V Bx hBx hob3 hIx ⟨⟨s3, hs3, hrow3, -⟩, hgd3, hkq3, hB3⟩ hlen3
        have hCV := hC.of_nb hB3
        have hBs3 := hB3.size
        have ka := hkq3.block (k := C2) (by omega) e2 rfl
        have kb := hkq3.block (k := C3) (by omega) e3 rfl
        have kc := hkq3.block (k := C4) (by omega) e4 rfl
        cases hg3 : okI (x1, x2, x3, x4, x5, x6, x7)
        · have henc := enc_bad _ hIx hg3 V hCV
          simp only [i7C] at hob3 henc ⊢
          obtain ⟨z, p0, p1, p2, p3, p4, p5, p6⟩ := cells7 hob3
          replace henc := Lib.hid henc
          clear hob3
          gi_wp2
          refine ⟨trivial, (callsIn_wide.2 henc.out).mono ?_⟩
          rintro r V2 ⟨rfl, hv2⟩
          have ja := hv2.block ka
          have jb := hv2.block kb
          have jc := hv2.block kc
          have m0 := cell_of_row _ _ 0 _ _ _ ja
          have m1 := cell_of_row _ _ 0 _ _ _ jb
          have m2 := cell_of_row _ _ 0 _ _ _ jc
          have u0 := frozen_bkc ja 0
          have u1 := frozen_bkc jb 0
          have u2 := frozen_bkc jc 0
          have hV2s := hv2.size
          have hC23 : C2 ≠ C3 := by omega
          have hC24 : C2 ≠ C4 := by omega
          have hC34 : C3 ≠ C4 := by omega
          have h3 := set3c hC23 hC24 hC34 ja jb jc (.slice none 0 0) (.slice none 0 0) (.int .i64 191)
          have hqv : Kq (XT 60) (fun k => k = C2 ∨ k = C3 ∨ k = C4) V (((V2.setCell ⟨C2, 0, none⟩ (.slice none 0 0)).setCell ⟨C3, 0, none⟩ (.slice none 0 0)).setCell ⟨C4, 0, none⟩ (.int .i64 191)) :=
            (((Kq.of_nb hv2).setc C2 _ (.inl rfl)).setc C3 _ (.inr (.inl rfl))).setc C4 _ (.inr (.inr rfl))
          have hBe : Below w.heap.size w (((V2.setCell ⟨C2, 0, none⟩ (.slice none 0 0)).setCell ⟨C3, 0, none⟩ (.slice none 0 0)).setCell ⟨C4, 0, none⟩ (.int .i64 191)) :=
            (((hB3.trans (hv2.mono hBs3)).setCell (p := ⟨C2, 0, none⟩) (by show _ ≤ C2; omega) _).setCell (p := ⟨C3, 0, none⟩) (by show _ ≤ C3; omega) _).setCell (p := ⟨C4, 0, none⟩) (by show _ ≤ C4; omega) _
          replace h3 := Lib.hid h3
          replace hqv := Lib.hid hqv
          replace hBe := Lib.hid hBe
          have hg3h := Lib.hid hg3
          clear hg3 ja jb jc ka kb kc p0 p1 p2 p3 p4 p5 p6
          gi_wp2
          refine ⟨⟨hqv.out.1, fun j o hj hA hc => hqv.out.block (by omega) hA (XT_cells hc)⟩, hqv.out.mono (fun _ h => .inr (by rcases h with h | h | h <;> simp [h])), by first | rfl | trivial, ?_, h3.out.1, h3.out.2.1, h3.out.2.2, (hkq3.mono (fun _ h => .inl h)).trans (hqv.out.mono (fun _ h => .inr h)), hBe.out⟩
          first | (rw [List.all_append, List.all_cons, hg3h.out]; simp) | simp [hg3h.out]
        · have henc := enc_ok _ hIx hg3 V hCV
          obtain ⟨WV, hWV⟩ : ∃ WV, wdI (x1, x2, x3, x4, x5, x6, x7) = WV := ⟨_, rfl⟩
          rw [hWV] at henc
          simp only [i7C] at hob3 henc ⊢
          obtain ⟨z, p0, p1, p2, p3, p4, p5, p6⟩ := cells7 hob3
          replace henc := Lib.hid henc
          replace hWV := Lib.hid hWV
          have hg3h := Lib.hid hg3
          clear hob3 ka kb kc hg3
          gi_wp2
          refine ⟨trivial, (callsIn_wide.2 henc.out).mono ?_⟩
          rintro r V2 ⟨rfl, hv2⟩
          have hs4 : Boxed V2 BW 26 s3 := hv2.block hs3
          have hr4 := row_kq hrow3 (Kq.of_nb (X := fun _ => false) (R := fun _ => False) hv2) (fun _ h => h.elim) (fun _ _ => rfl)
          have hc3 := hs4.cell
          have hf3 := hs4.frozen
          have hV2s := hv2.size
          have hWl : (WL ++ ys).length ≤ 800100 := by rw [List.length_append]; omega
          obtain ⟨NW, hNW⟩ : ∃ NW, (WL ++ ys).length = NW := ⟨_, rfl⟩
          rw [hNW] at hr4 hWl
          replace hNW := Lib.hid hNW
          clear p0 p1 p2 p3 p4 p5 p6
          gi_wp2_with (gi_at_builtin; refine wpListIn_append_own _ rfl _ _ 26 rfl w.heap.size 60 iu _ 1 4 Tryd.underlying26 hiu hu0 hu1 hu2 rfl (by decide) _ _ _ rfl (hr4.alloc _) ⟨V2.heap.size, 0, none⟩ 1 1 [.int .u32 WV] rfl rfl ?d1 ?d2 ?d3 ?d4 ?d5 ?_)
          case d1 =>
            intro j u hj
            first | exact hj | (have e : ({ block := V2.heap.size, off := 0 } : Addr).add j = ⟨V2.heap.size, j, none⟩ := by simp [Addr.add]; intro h; omega
                                rw [e]
                                exact (cell_of_row _ _ j _ _ _ (new_bkc _ _ rfl)).trans ((List.getElem?_toArray ..).trans hj))
          case d2 =>
            intro u hu
            rw [List.mem_singleton] at hu
            subst hu
            rfl
          case d3 => unfold maxLen; omega
          case d4 => omega
          case d5 => first | omega | (rw [World.size_alloc]; omega)
          intro v' w1 hown' hgrow _
          obtain ⟨g', cap', rfl⟩ := ownsRow_succ hown'
          obtain ⟨hv1, hv3, hr3, hk3, hb3⟩ := hs4.appended (by decide) hr4 (by omega) (by omega) hown' hgrow
          have hq : Kq (XT 60) (fun k => k = BW) V (w1.setCell ⟨BW, 0, none⟩ (.slice (some ⟨g', 0, none⟩) (NW + 1) cap')) :=
            (Kq.of_nb hv2).trans (((Kq.of_nb ((Nb.refl V2).alloc _)).trans (app_kqT (hr4.alloc _) hgrow)).trans (Kq.set _ _ _ rfl))
          have hc5 := hv1.cell
          have hf5 := hv1.frozen
          have hBe : Below w.heap.size w (w1.setCell ⟨BW, 0, none⟩ (.slice (some ⟨g', 0, none⟩) (NW + 1) cap')) := (hB3.trans (hv2.mono hBs3)).trans hb3
          replace hq := Lib.hid hq
          replace hBe := Lib.hid hBe
          replace hr3 := Lib.hid hr3
          replace hv3 := Lib.hid hv3
          clear hown' hgrow hb3 hk3 hc3 hf3
          gi_wp2
          have e1 : (WL ++ (ys ++ [(x1, x2, x3, x4, x5, x6, x7)])).length = NW + 1 := by rw [← List.append_assoc, List.length_append, hNW.out]; rfl
          have e5 : w32 (WL ++ (ys ++ [(x1, x2, x3, x4, x5, x6, x7)])) = w32 (WL ++ ys) ++ [.int .u32 WV] := by rw [← List.append_assoc]; unfold w32; rw [List.map_append]; rw [← hWV.out]; rfl
          refine ⟨⟨hq.out.1, fun j o hj hA hc => hq.out.block (by omega) hA (XT_cells hc)⟩, hq.out.mono (fun _ h => .inl h), ⟨_, hv3.out, by rw [e1, e5]; exact hr3.out, trivial⟩, ?_, hkq3.trans hq.out, hBe.out⟩
          rw [List.all_append, hgd3, List.all_cons, hg3h.out]
          rfl
      case done3 =>
        rintro xs V rfl ⟨⟨s3, hs3, hrow3, -⟩, hgd3, hkq3, hB3⟩
        have kV : Kq (XT 60) (fun k => k = BW) V10 V := (Kq.of_nb hG).trans hkq3
        have kWV : Kq (XU 60 44) (fun k => k = BW ∨ k = BL) W V := kW.trans (kq_x (kV.mono (fun _ h => .inl h)) (fun o h => XU_l h))
        obtain ⟨t, hbt5, hrt5⟩ := t10
        have hrt6 := row_kq hrt5 kV (fun g hg cs fr h => by rw [hg, show V10.heap[BW]? = _ from x10] at h; cases h) (fun _ _ => rfl)
        have hbt6 : Boxed V BL 27 t := kV.block (by omega) hbt5 rfl
        have hW6 : W6.heap.size ≤ W.heap.size := hBl
        have e1 : Hid ((inL is fs ST ((pre2 ++ [(⟨(k, at_), hk, ha0, ha1⟩ : PlV is.length)]).map (·.1))).all okI = true) := Lib.hid (by rw [hst.out, List.all_append, hgd, hgd3]; rfl)
        gi_wp2
        refine ⟨⟨kWV.1, fun j o hj hA hc => kWV.block (by omega) hA (XU_cells hc)⟩, Kn.of (Nat.le_refl _) (kWV.mono (fun _ h => by rcases h with h | h <;> simp [h])) hB hB3, ⟨s3, hs3, by rw [hst.out]; exact hrow3, trivial⟩, e1.out, ⟨t, hbt6, hrt6, trivial⟩, hkq.trans kWV, hB3⟩
      case stop3 =>
        rintro c ys V hpre ⟨rfl, hbad, ga, gb, gc, hkq3, hB3⟩
        have kV : Kq (XT 60) (fun k => k = BW ∨ k = C2 ∨ k = C3 ∨ k = C4) V10 V := (Kq.of_nb hG).trans hkq3
        have kWV : Kq (XU 60 44) (fun k => k = BW ∨ k = BL ∨ k = C2 ∨ k = C3 ∨ k = C4) W V := (kW.mono (fun _ h => by rcases h with h | h <;> simp [h])).trans (kq_x (kV.mono (fun _ h => by rcases h with h | h | h | h <;> simp [h])) (fun o h => XU_l h))
        have hW6 : W6.heap.size ≤ W.heap.size := hBl
        have e1 : Hid ((inL is fs ST ((pre2 ++ [(⟨(k, at_), hk, ha0, ha1⟩ : PlV is.length)]).map (·.1))).all okI = false) := Lib.hid (by
          obtain ⟨ts, rfl⟩ := hpre
          rw [hst.out, List.all_append, List.all_append, hbad]
          simp)
        gi_wp2
        refine ⟨⟨kWV.1, fun j o hj hA hc => kWV.block (by omega) hA (XU_cells hc)⟩, Kn.of (Nat.le_refl _) (kWV.mono (fun _ h => by rcases h with h | h | h | h | h <;> simp [h])) hB hB3, by first | rfl | trivial, e1.out, ga, gb, gc, hB3⟩

  case done =>
    rintro D xs V hD hxs ⟨⟨s, hbx, hrow, -⟩, hgd, ⟨t, hbt, hrowt, -⟩, hkq, hB⟩ hK
    have hx2 : xs.map (·.1) = PL := hxs.trans hPLh.out
    rw [hx2] at hrow hrowt hgd
    have q5 := hbx.cell
    have q6 := hbt.cell
    have g2 := hkq.block (k := C2) (by omega) qC2 rfl
    have g3 := hkq.block (k := C3) (by omega) qC3 rfl
    have g4 := hkq.block (k := C4) (by omega) qC4 rfl
    have u0 := frozen_bkc g2 0
    have u1 := frozen_bkc g3 0
    have u2 := frozen_bkc g4 0
    have hsl : ∃ A n c, s = .slice A n c := by
      rcases hrow.2 with ⟨rfl, _⟩ | ⟨_, _, _, rfl, _⟩ <;> exact ⟨_, _, _, rfl⟩
    have htl : ∃ A n c, t = .slice A n c := by
      rcases hrowt.2 with ⟨rfl, _⟩ | ⟨_, _, _, rfl, _⟩ <;> exact ⟨_, _, _, rfl⟩
    obtain ⟨sA, sn, sc, rfl⟩ := hsl
    obtain ⟨tA, tn, tc, rfl⟩ := htl
    have m0 := cell_of_row _ _ 0 _ _ _ g2
    have m1 := cell_of_row _ _ 0 _ _ _ g3
    have m2 := cell_of_row _ _ 0 _ _ _ g4
    have hBs := hB.size
    have hC23 : C2 ≠ C3 := by omega
    have hC24 : C2 ≠ C4 := by omega
    have hC34 : C3 ≠ C4 := by omega
    have hDs : D < V.heap.size := (Array.getElem?_eq_some_iff.1 hK).1
    have h3 := set3c hC23 hC24 hC34 g2 g3 g4 (.slice sA sn sc) (.slice tA tn tc) (.int .i64 0)
    have hqv : Kq (fun _ => false) (fun k => k = C2 ∨ k = C3 ∨ k = C4) V (((V.setCell ⟨C2, 0, none⟩ (.slice sA sn sc)).setCell ⟨C3, 0, none⟩ (.slice tA tn tc)).setCell ⟨C4, 0, none⟩ (.int .i64 0)) :=
      (((Kq.refl V).setc C2 _ (.inl rfl)).setc C3 _ (.inr (.inl rfl))).setc C4 _ (.inr (.inr rfl))
    have hBe : Below w.heap.size w (((V.setCell ⟨C2, 0, none⟩ (.slice sA sn sc)).setCell ⟨C3, 0, none⟩ (.slice tA tn tc)).setCell ⟨C4, 0, none⟩ (.int .i64 0)) :=
      ((hB.setCell (p := ⟨C2, 0, none⟩) (by show _ ≤ C2; omega) _).setCell (p := ⟨C3, 0, none⟩) (by show _ ≤ C3; omega) _).setCell (p := ⟨C4, 0, none⟩) (by show _ ≤ C4; omega) _
    have hKe := hqv.block (k := D) (by omega) hK rfl
    have hr5 := row_kq hrow hqv (fun g hg cs fr h => by rcases hg with hg | hg | hg <;> rw [hg] at h <;> first | (rw [g2] at h; cases h) | (rw [g3] at h; cases h) | (rw [g4] at h; cases h)) (fun _ _ => rfl)
    have hr6 := row_kq hrowt hqv (fun g hg cs fr h => by rcases hg with hg | hg | hg <;> rw [hg] at h <;> first | (rw [g2] at h; cases h) | (rw [g3] at h; cases h) | (rw [g4] at h; cases h)) (fun _ _ => rfl)
    have nd := drew1c (((V.setCell ⟨C2, 0, none⟩ (.slice sA sn sc)).setCell ⟨C3, 0, none⟩ (.slice tA tn tc)).setCell ⟨C4, 0, none⟩ (.int .i64 0))
    have hBe2 := hBe.trans (nd.mono hBe.size)
    have hn5 := row_kq hr5 (Kq.of_nb (X := fun _ => false) (R := fun _ => False) nd) (fun _ h => h.elim) (fun _ _ => rfl)
    have hn6 := row_kq hr6 (Kq.of_nb (X := fun _ => false) (R := fun _ => False) nd) (fun _ h => h.elim) (fun _ _ => rfl)
    have hfin : Hid (_ ∧ _ ∧ _ ∧ _ ∧ _ ∧ _) := Lib.hid ⟨(⟨nd.block h3.1, nd.block h3.2.1, nd.block h3.2.2⟩ : _ ∧ _ ∧ _), hqv.1, hBe2, nd.block hKe, hn5, hn6⟩
    clear h3 hqv hBe hKe hr5 hr6 hBe2 hn5 hn6 nd
    gi_wp2
    go_wp2_with fail
    go_region
    go_wp2_with fail
    obtain ⟨⟨e2, e3, e4⟩, hsz, hBe, hKe, hr5, hr6⟩ := hfin.out
    refine ⟨by simp, .inl ⟨_, _, rfl, run_takeDeferred hKe, ?_⟩⟩
    exact ⟨_, results_c3 rfl _ _ C2 C3 C4 rfl rfl rfl (lv_words ((World.putObj_heap_other (by omega)).trans e2)) (lv_labels ((World.putObj_heap_other (by omega)).trans e3)) (lv_err ((World.putObj_heap_other (by omega)).trans e4)), .inl ⟨hgd, _, _, rfl, hBe.trans (belowK_b (w := w) (Nat.le_refl _) _ D _ _ (by omega) hKe rfl rfl), ownsRow_putObj hr5 _ hKe rfl, ownsRow_putObj hr6 _ hKe rfl⟩⟩
  case stop =>
    rintro D c pre V hD hpre ⟨rfl, hbad, ga, gb, gc, hB⟩ hK
    have hlt := lt_bkc gc
    have hall : (inL is fs ST PL).all okI = false := by
      rw [← hPLh.out]
      obtain ⟨ts, hts⟩ := hpre
      rw [← hts]
      unfold inL at hbad ⊢
      rw [List.flatMap_append, List.all_append, hbad]
      rfl
    gi_wp2
    refine ⟨by simp, .inl ⟨_, _, rfl, run_takeDeferred hK, ?_⟩⟩
    have hDs : D < V.heap.size := (Array.getElem?_eq_some_iff.1 hK).1
    exact ⟨_, results_c3 rfl _ _ C2 C3 C4 rfl rfl rfl (lv_words ((World.putObj_heap_other (by omega)).trans ga)) (lv_labels ((World.putObj_heap_other (by omega)).trans gb)) (lv_err ((World.putObj_heap_other (by omega)).trans gc)), .inr ⟨hall, rfl, hB.trans (belowK_b (w := w) (Nat.le_refl _) V D _ _ (by omega) hK rfl rfl)⟩⟩
end Go.Proofs.YtnooabgdcfegeaaDoor
