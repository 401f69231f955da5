/-
  Proved here: how many words a value's tuples have, and whether it may be, the code's. Conditions: the memory holds the value; of its blocks nothing is frozen.
-/
import Derived.Test.YtmoggaecnjcjfaaVc
import Derived.Test.YtmoggaecnjcjfaaVe
import Derived.Laws.ResultCell
namespace Go.Proofs.Ytmoggaecnjcjfaa
open Go.RowKit Go.ChangeMaps
set_option linter.unusedVariables false
set_option linter.unusedSimpArgs false
set_option maxRecDepth 100000
set_option maxHeartbeats 4000000
/-- A round of the loop over a tuple's parts: i of them are measured. -/
structure Rnd (W0 : World) (mb kb fb : Nat) (v : Vl) (ar L : Nat) (w : World) (S V K N bb oo cap : Nat) (i : Nat) (wr : World) : Prop where
  bN : wr.heap[N]? = some (.cells #[.int .i64 ((min (1 + L + sumL ((v.args.take i).map Vl.wd)) mxI : Nat) : Int), .int .i64 ((maxL ((v.args.take i).map Vl.dp) : Nat) : Int)] 57 (0, 0))
  all : ∀ x ∈ v.args.take i, okV x (ar + 1) = true
  ms : MsAt W0 mb kb fb wr
  gb : Gb mb w wr
  bV : wr.heap[V]? = some (.cells #[.int .i64 4, .int .i64 0, .slice (some ⟨bb, oo, none⟩) L cap] 24 (0, 0))
  bS : wr.heap[S]? = some (.cells #[.int .i64 0, .int .i64 0] 57 (0, 0))
  bK : wr.heap[K]? = some (.cells #[.pointer (some ⟨bb, oo, none⟩), .int .i64 (L : Int)] 77 (0, 0))
theorem measure_any (W0 : World) (mb kb fb : Nat) (h1 : W0.heap.size ≤ mb) : ∀ (v : Vl), v.Has W0 → v.Fre W0 → ∀ (ar : Nat), ar ≤ 64 → ∀ w, MsAt W0 mb kb fb w →
    Calls Try.prog 44 #[.agg v.cells.toArray, .int .i64 (ar : Int), .pointer (some ⟨kb, 0, none⟩), .pointer (some ⟨fb, 0, none⟩)] w (MPost W0 mb kb fb v ar w) := by
  intro v
  induction v using Vl.ind with
  | h v ih =>
    intro hv hz ar har w hw
    obtain ⟨A, cap, hav, hcap, hlen, hA⟩ := hv.vls.head
    have hX := Lib.hid (show VlsHas W0 (.slice A v.args.length cap) v.args by rw [← hav]; exact hv.vls)
    have hcs : v.cells.toArray = #[.int .i64 v.kind, .int .i64 v.n, .slice A v.args.length cap] := by rw [← hav]; rfl
    rw [hcs]
    obtain ⟨L, hL⟩ : ∃ L, v.args.length = L := ⟨_, rfl⟩
    have hLh := Lib.hid hL
    have hmay := Lib.hid (show v.may = (mayHd v.kind v.n L && v.args.all Vl.may) by rw [← hL]; exact v.may_eq)
    rw [hL] at hcap hlen hX hav ⊢
    replace hav := Lib.hid hav
    clear hL hcs
    by_cases hm : mayHd v.kind v.n L = true
    · have hm1 := Lib.hid hm
      have hm2 := Lib.hid (fun W => by simpa only [hm] using may_any v.kind v.n L W)
      by_cases h4 : v.kind = 4
      · obtain ⟨hn0, hL1, hL4⟩ : v.n = 0 ∧ 1 ≤ L ∧ L ≤ 4 := by rw [h4] at hm; simp [mayHd] at hm; omega
        obtain ⟨x0, hx0⟩ : ∃ x, v.args[0]? = some x := ⟨_, List.getElem?_eq_getElem (by have := hLh.out; omega)⟩
        obtain ⟨bb, oo, rfl, -, -⟩ := hX.out.at_ hx0
        have hfb := hz.blk hav.out
        have hdp := Lib.hid (Vl.dp_tup h4)
        have hwd := Lib.hid (Vl.wd_tup h4)
        clear hm hx0 hm2
        have hm3 : mayHd 4 0 L = true := by rw [← h4, ← hn0]; exact hm1.out
        have hm2 := Lib.hid (fun W => by simpa only [hm3] using may_any 4 0 L W)
        rw [h4, hn0]
        clear hm3
        replace h4 := Lib.hid h4
        replace hn0 := Lib.hid hn0
        have hL0 : 0 < L := by omega
        go_enter Try.func44, Try.ntmps44
        go_upto_region 1 with (fail)
        obtain ⟨W1, hW⟩ : ∃ W1, (w.alloc (Obj.cells #[.int .i64 4, .int .i64 0, .slice (some ⟨bb, oo, none⟩) L cap] 24)).alloc (Obj.cells #[.int .i64 0, .int .i64 0] 57) = W1 := ⟨_, rfl⟩
        have n1 : Nb w W1 := by rw [← hW]; exact ((Nb.refl w).alloc _).alloc _
        have bS : W1.heap[w.heap.size + 1]? = some (.cells #[.int .i64 0, .int .i64 0] 57 (0, 0)) := by rw [← hW]; exact new_blk _ _ (by rw [World.size_alloc])
        have bV : W1.heap[w.heap.size]? = some (.cells #[.int .i64 4, .int .i64 0, .slice (some ⟨bb, oo, none⟩) L cap] 24 (0, 0)) := by rw [← hW]; exact old_blk (new_blk _ _ rfl) _
        rw [hW]
        clear hW
        have hlt := hw.lt
        obtain ⟨S, hS⟩ : ∃ S, w.heap.size + 1 = S := ⟨_, rfl⟩
        obtain ⟨V, hV⟩ : ∃ V, w.heap.size = V := ⟨_, rfl⟩
        rw [hS] at bS ⊢
        rw [hV] at bV ⊢
        have hSz : w.heap.size ≤ S := by omega
        have hmS : mb ≠ S := by omega
        have hmV : mb ≠ V := by omega
        have hVS : V < S := by omega
        have hVz : w.heap.size ≤ V := by omega
        clear hS hV hlt
        have v0 := cell_of_row _ _ 0 _ _ _ bV
        have v1 := cell_of_row _ _ 1 _ _ _ bV
        have v2 := cell_of_row _ _ 2 _ _ _ bV
        have bS0 := bS
        go_upto_region 6 with (first
          | (go_at_call 45; refine (headOf_any _ _ _ _ _ _).mono ?_; rintro r w2 ⟨rfl, n2⟩)
          | (go_at_call 46; refine (hm2.out _).mono ?_; rintro r w3 ⟨rfl, n3⟩; have b3 := (n2.trans n3).block bS; have c0 := cell_of_row _ _ 0 _ _ _ b3; have c1 := cell_of_row _ _ 1 _ _ _ b3; have f0 := frozen_blk b3 0; have f1 := frozen_blk b3 1; have k3 := (n2.trans n3).block bV; have v0 := cell_of_row _ _ 0 _ _ _ k3; have v1 := cell_of_row _ _ 1 _ _ _ k3; have v2 := cell_of_row _ _ 2 _ _ _ k3)
          | (go_at_call 47; refine (listOf_any _ _ _ _ _ hL0).mono ?_; rintro r w4 ⟨rfl, n4⟩))
        obtain ⟨W5, hW5⟩ : ∃ W5, w4.alloc (Obj.cells #[.pointer (some ⟨bb, oo, none⟩), .int .i64 (L : Int)] 77) = W5 := ⟨_, rfl⟩
        have n5 : Nb w4 W5 := by rw [← hW5]; exact (Nb.refl w4).alloc _
        have bK : W5.heap[w4.heap.size]? = some (.cells #[.pointer (some ⟨bb, oo, none⟩), .int .i64 (L : Int)] 77 (0, 0)) := by rw [← hW5]; exact new_blk _ _ rfl
        rw [hW5]
        clear hW5
        have n15 : Nb W1 W5 := n2.trans (n3.trans (n4.trans n5))
        have h5 : MsAt W0 mb kb fb W5 := hw.go (n1.trans n15)
        have hf5 : Fz W5 bb := hfb.nb h5.nb
        replace bS := n15.block bS
        replace bV := n15.block bV
        have g5 : Gb mb w W5 := Gb.of_nb (n1.trans n15)
        obtain ⟨K, hK⟩ : ∃ K, w4.heap.size = K := ⟨_, rfl⟩
        have hKz : w.heap.size ≤ K := by have := (n1.trans (n2.trans (n3.trans n4))).size; omega
        have hSK : S < K := by have := lt_blk ((n2.trans (n3.trans n4)).block bS0); omega
        have hmK : mb ≠ K := by have := hw.lt; omega
        rw [hK] at bK ⊢
        clear hK n2 n3 n4 n5 n1 n15 b3 k3 c0 c1 f0 f1 v0 v1 v2
        have q0 := cell_of_row _ _ 0 _ _ _ bK
        have q1 := cell_of_row _ _ 1 _ _ _ bK
        have qm := cell_of_row _ _ 0 _ _ _ h5.kbox
        rcases look_key h5.keys h5.nb (o := oo) (n := L) hf5 with hrun | ⟨u, hrun, hu⟩
        · dsimp only [keyV] at hrun
          go_upto_region 7 with (fail)
          obtain ⟨W6, hW6⟩ : ∃ W6, W5.alloc (Obj.cells #[.int .i64 0, .int .i64 0] 57) = W6 := ⟨_, rfl⟩
          have n6 : Nb W5 W6 := by rw [← hW6]; exact (Nb.refl W5).alloc _
          have bN : W6.heap[W5.heap.size]? = some (.cells #[.int .i64 0, .int .i64 0] 57 (0, 0)) := by rw [← hW6]; exact new_blk _ _ rfl
          rw [hW6]
          clear hW6
          have h6 := h5.go n6
          have hKN : K < W5.heap.size := lt_blk bK
          replace bS := n6.block bS
          replace bV := n6.block bV
          replace bK := n6.block bK
          have g6 : Gb mb w W6 := g5.trans (Gb.of_nb n6)
          have hmN : mb ≠ W5.heap.size := by have := h5.lt; omega
          have hkN : kb ≠ W5.heap.size := by have := h5.lt; omega
          have hfN : fb ≠ W5.heap.size := by have := h5.lt; omega
          have hNz : W0.heap.size ≤ W5.heap.size := h5.nb.size
          obtain ⟨N, hN⟩ : ∃ N, W5.heap.size = N := ⟨_, rfl⟩
          rw [hN] at bN hKN hmN hkN hfN hNz ⊢
          clear hN n6 h5 g5 hf5 hrun q0 q1 qm bS0
          have s0 := cell_of_row _ _ 0 _ _ _ bN
          have s1 := cell_of_row _ _ 1 _ _ _ bN
          have sf0 := frozen_blk bN 0
          have sf1 := frozen_blk bN 1
          have c0 := cell_of_row _ _ 0 _ _ _ bS
          have c1 := cell_of_row _ _ 1 _ _ _ bS
          have f0 := frozen_blk bS 0
          have f1 := frozen_blk bS 1
          by_cases ha : ar = 64
          · subst ha
            have hno : okV v 64 = false := by unfold okV; rw [hdp.out, decide_eq_false (by omega), Bool.and_false]
            replace hno := Lib.hid hno
            go_wp2_with fail
            refine bodyPost_ret (results_rt rfl _ _ S _ rfl (run_loadVar_row _ _ _ _ _ _ _ (set2_all bS) Try.underlying57 rfl (by kernel_rfl))) rfl ?_
            refine ⟨?_, (g6.far hSz _ _).far hSz _ _, (h6.keys.far hmS _ _).far hmS _ _⟩
            rw [hno.out]
            rfl
          · have ha2 : (ar : Int) + 1 ≤ 64 := by omega
            have ha3 : ar + 1 ≤ 64 := by omega
            clear ha
            have v2 := cell_of_row _ _ 2 _ _ _ bV
            go_upto_region 12 with (fail)
            obtain ⟨W7, hW7⟩ : ∃ W7, W6.setCell ⟨N, 0, none⟩ (.int .i64 (1 + (L : Int))) = W7 := ⟨_, rfl⟩
            have h7 : MsAt W0 mb kb fb W7 := by rw [← hW7]; exact h6.far hNz hmN hkN hfN _ _
            have g7 : Gb mb w W7 := by rw [← hW7]; exact g6.far (by omega) _ _
            have bN7 : W7.heap[N]? = some (.cells #[.int .i64 (1 + (L : Int)), .int .i64 0] 57 (0, 0)) := by rw [← hW7]; exact heap_setCell_same _ _ _ _ _ _ bN
            replace bS : W7.heap[S]? = some (.cells #[.int .i64 0, .int .i64 0] 57 (0, 0)) := by rw [← hW7, heap_setCell_other _ _ _ _ (show S ≠ N by omega)]; exact bS
            replace bV : W7.heap[V]? = some (.cells #[.int .i64 4, .int .i64 0, .slice (some ⟨bb, oo, none⟩) L cap] 24 (0, 0)) := by rw [← hW7, heap_setCell_other _ _ _ _ (show V ≠ N by omega)]; exact bV
            replace bK : W7.heap[K]? = some (.cells #[.pointer (some ⟨bb, oo, none⟩), .int .i64 (L : Int)] 77 (0, 0)) := by rw [← hW7, heap_setCell_other _ _ _ _ (show K ≠ N by omega)]; exact bK
            rw [hW7]
            clear hW7 s0 s1 sf0 sf1 c0 c1 f0 f1 v2 bN h6 g6 hw
            have v2 := cell_of_row _ _ 2 _ _ _ bV
            have hR0 : Rnd W0 mb kb fb v ar L w S V K N bb oo cap 0 W7 := by
              refine ⟨?_, fun x hx => absurd hx (by simp), h7, g7, bV, bS, bK⟩
              have e : ((min (1 + L + sumL ((v.args.take 0).map Vl.wd)) mxI : Nat) : Int) = 1 + (L : Int) := by
                show ((min (1 + L + 0) 9223372036854775807 : Nat) : Int) = _
                omega
              rw [e]
              exact bN7
            replace hR0 := Lib.hid hR0
            clear bN7 h7 g7 bS bK
            go_wp2_with fail
            clear v2 bV
            go_loopw [50] (fun si wr => ∃ i : Nat, i ≤ L ∧ si = .int .i64 i ∧ Rnd W0 mb kb fb v ar L w S V K N bb oo cap i wr) (fun si _ => L - (intOf si).toNat)
            case atStart => exact ⟨0, Nat.zero_le _, rfl, hR0.out⟩
            case round =>
              obtain ⟨i, hi, rfl, hR⟩ := hrel
              by_cases hlt : i < L
              · have hlt2 : (i : Int) < (L : Int) := by omega
                obtain ⟨x, hx⟩ : ∃ x, v.args[i]? = some x := ⟨_, List.getElem?_eq_getElem (by rw [hLh.out]; exact hlt)⟩
                obtain ⟨b', o', hbo, ⟨y0, y1, y2⟩, hxh⟩ := hX.out.at_ hx
                cases hbo
                replace y0 := hR.ms.nb.cell y0
                replace y1 := hR.ms.nb.cell y1
                replace y2 := hR.ms.nb.cell y2
                obtain ⟨Ax, cx, hax, -, -, -⟩ := hxh.vls.head
                obtain ⟨Lx, hLx⟩ : ∃ Lx, x.args.length = Lx := ⟨_, rfl⟩
                rw [hLx] at hax
                clear hLx
                have hcx : x.cells.toArray = #[.int .i64 x.kind, .int .i64 x.n, .slice Ax Lx cx] := by rw [← hax]; rfl
                rw [hax] at y2
                clear hax
                have hcall : Hid (∀ W', Nb wr W' → Calls Try.prog 44 #[.agg #[.int .i64 x.kind, .int .i64 x.n, .slice Ax Lx cx], .int .i64 ((ar : Int) + 1), .pointer (some ⟨kb, 0, none⟩), .pointer (some ⟨fb, 0, none⟩)] W' (MPost W0 mb kb fb x (ar + 1) W')) := Lib.hid (fun W' n' => by
                  rw [← hcx]
                  exact ih x (List.mem_of_getElem? hx) hxh (hz.kids x (List.mem_of_getElem? hx)) (ar + 1) ha3 W' (hR.ms.go n'))
                clear hcx
                replace hx := Lib.hid hx
                replace hR := Lib.hid hR
                go_upto_region 15 with (fail)
                obtain ⟨W8, hW8⟩ : ∃ W8, wr.alloc (Obj.cells #[.int .i64 x.kind, .int .i64 x.n, .slice Ax Lx cx] 24) = W8 := ⟨_, rfl⟩
                have n8 : Nb wr W8 := by rw [← hW8]; exact (Nb.refl wr).alloc _
                have b8 : W8.heap[wr.heap.size]? = some (.cells #[.int .i64 x.kind, .int .i64 x.n, .slice Ax Lx cx] 24 (0, 0)) := by rw [← hW8]; exact new_blk _ _ rfl
                rw [hW8]
                clear hW8 y0 y1 y2
                obtain ⟨X, hX8⟩ : ∃ X, wr.heap.size = X := ⟨_, rfl⟩
                rw [hX8] at b8 ⊢
                clear hX8
                have hc8 := Lib.hid (hcall.out W8 n8)
                have m8 := hR.out.ms.go n8
                have bN := n8.block hR.out.bN
                have bS := n8.block hR.out.bS
                have bV := n8.block hR.out.bV
                have bK := n8.block hR.out.bK
                have g8 := hR.out.gb.trans (Gb.of_nb n8)
                have hall := Lib.hid hR.out.all
                clear hR hcall
                obtain ⟨ws, hws⟩ : ∃ k : Nat, min (1 + L + sumL ((v.args.take i).map Vl.wd)) mxI = k := ⟨_, rfl⟩
                obtain ⟨ds, hds⟩ : ∃ k : Nat, maxL ((v.args.take i).map Vl.dp) = k := ⟨_, rfl⟩
                rw [hws, hds] at bN
                replace hws := Lib.hid hws
                replace hds := Lib.hid hds
                have qf := cell_of_row _ _ 0 _ _ _ m8.fbox
                have z0 := cell_of_row _ _ 0 _ _ _ b8
                have z1 := cell_of_row _ _ 1 _ _ _ b8
                have z2 := cell_of_row _ _ 2 _ _ _ b8
                by_cases hg : okV x (ar + 1) = true
                · obtain ⟨wx, hwx⟩ : ∃ k : Nat, min x.wd mxI = k := ⟨_, rfl⟩
                  obtain ⟨dx, hdx⟩ : ∃ k : Nat, x.dp = k := ⟨_, rfl⟩
                  have hc9 : Hid (Calls Try.prog 44 #[.agg #[.int .i64 x.kind, .int .i64 x.n, .slice Ax Lx cx], .int .i64 ((ar : Int) + 1), .pointer (some ⟨kb, 0, none⟩), .pointer (some ⟨fb, 0, none⟩)] W8 (fun r w' => r = .returned (.tuple #[.agg #[.int .i64 (wx : Int), .int .i64 (dx : Int)], .bool true]) ∧ Gb mb W8 w' ∧ KeysAt W0 w' mb (SizeOk W0))) := Lib.hid (hc8.out.mono fun r w' h => by
                    obtain ⟨h1, h2, h3⟩ := h
                    refine ⟨?_, h2, h3⟩
                    rw [h1, hg]
                    show Ending.returned (.tuple #[.agg #[.int .i64 ((min x.wd mxI : Nat) : Int), .int .i64 (x.dp : Int)], .bool true]) = _
                    rw [hwx, hdx])
                  replace hwx := Lib.hid hwx
                  replace hdx := Lib.hid hdx
                  replace hg := Lib.hid hg
                  clear hc8
                  go_upto_region 16 with (go_at_call 44; refine (hc9.out).mono ?_; rintro r w9 ⟨rfl, g9, k9⟩)
                  obtain ⟨W10, hW10⟩ : ∃ W10, w9.alloc (Obj.cells #[.int .i64 (wx : Int), .int .i64 (dx : Int)] 57) = W10 := ⟨_, rfl⟩
                  have n10 : Nb w9 W10 := by rw [← hW10]; exact (Nb.refl w9).alloc _
                  have bJ : W10.heap[w9.heap.size]? = some (.cells #[.int .i64 (wx : Int), .int .i64 (dx : Int)] 57 (0, 0)) := by rw [← hW10]; exact new_blk _ _ rfl
                  rw [hW10]
                  clear hW10
                  have m10 := (m8.gb h1 g9 k9).go n10
                  have hNJ : N < w9.heap.size := lt_blk (g9.block bN (Ne.symm hmN))
                  replace bN := n10.block (g9.block bN (Ne.symm hmN))
                  replace bS := n10.block (g9.block bS (Ne.symm hmS))
                  replace bV := n10.block (g9.block bV (Ne.symm hmV))
                  replace bK := n10.block (g9.block bK (Ne.symm hmK))
                  have g10 := g8.trans (g9.trans (Gb.of_nb n10))
                  obtain ⟨J, hJ⟩ : ∃ J, w9.heap.size = J := ⟨_, rfl⟩
                  rw [hJ] at bJ hNJ ⊢
                  clear hJ n10 g9 k9 m8 g8 qf z0 z1 z2 b8 n8 hc9
                  have s0 := cell_of_row _ _ 0 _ _ _ bN
                  have s1 := cell_of_row _ _ 1 _ _ _ bN
                  have sf0 := frozen_blk bN 0
                  have sf1 := frozen_blk bN 1
                  have j0 := cell_of_row _ _ 0 _ _ _ bJ
                  have j1 := cell_of_row _ _ 1 _ _ _ bJ
                  have hb1 : ws ≤ 9223372036854775807 := by rw [← hws.out]; exact Nat.min_le_right _ _
                  have hb2 : wx ≤ 9223372036854775807 := by rw [← hwx.out]; exact Nat.min_le_right _ _
                  have hRn : Hid (∀ a b, a = ((min (ws + wx) 9223372036854775807 : Nat) : Int) → b = ((max ds dx : Nat) : Int) → Rnd W0 mb kb fb v ar L w S V K N bb oo cap (i + 1) ((W10.setCell ⟨N, 0, none⟩ (.int .i64 a)).setCell ⟨N, 1, none⟩ (.int .i64 b))) := Lib.hid (by
                    intro a b ha hb
                    refine ⟨?_, ?_, (m10.far hNz hmN hkN hfN _ _).far hNz hmN hkN hfN _ _, (g10.far (by omega) _ _).far (by omega) _ _, ?_, ?_, ?_⟩
                    · rw [set2_all bN, sumL_take hx.out, maxL_take hx.out, hds.out, hdx.out, ha, hb]
                      have e : min (ws + wx) 9223372036854775807 = min (1 + L + (sumL ((v.args.take i).map Vl.wd) + x.wd)) mxI := by
                        have e1 := hws.out
                        have e2 := hwx.out
                        show _ = min _ 9223372036854775807
                        simp only [mxI] at e1 e2
                        omega
                      rw [e]
                    · intro y hy
                      rw [List.take_add_one, hx.out, List.mem_append] at hy
                      rcases hy with hy | hy
                      · exact hall.out y hy
                      · simp only [Option.toList_some, List.mem_singleton] at hy
                        rw [hy]; exact hg.out
                    · rw [heap_setCell_other _ _ _ _ (show V ≠ N by omega), heap_setCell_other _ _ _ _ (show V ≠ N by omega)]; exact bV
                    · rw [heap_setCell_other _ _ _ _ (show S ≠ N by omega), heap_setCell_other _ _ _ _ (show S ≠ N by omega)]; exact bS
                    · rw [heap_setCell_other _ _ _ _ (show K ≠ N by omega), heap_setCell_other _ _ _ _ (show K ≠ N by omega)]; exact bK)
                  clear bN bS bV bK bJ m10 g10
                  go_wp2_with (go_at_call 48; refine (sum_any ws wx hb1 hb2 _).mono ?_; rintro r w11 ⟨rfl, rfl⟩)
                  all_goals exact ⟨⟨i + 1, by omega, by simp, hRn.out _ _ (by first | rfl | omega) (by first | rfl | omega)⟩, by simp [intOf] <;> omega⟩
                · have hg0 : okV x (ar + 1) = false := by simpa using hg
                  have hno : okV v ar = false := by
                    cases h : okV v ar with
                    | false => rfl
                    | true => exact absurd (okV_part h4.out (List.mem_of_getElem? hx.out) h) hg
                  have hc9 : Hid (Calls Try.prog 44 #[.agg #[.int .i64 x.kind, .int .i64 x.n, .slice Ax Lx cx], .int .i64 ((ar : Int) + 1), .pointer (some ⟨kb, 0, none⟩), .pointer (some ⟨fb, 0, none⟩)] W8 (fun r w' => r = .returned (.tuple #[.agg #[.int .i64 0, .int .i64 0], .bool false]) ∧ Gb mb W8 w' ∧ KeysAt W0 w' mb (SizeOk W0))) := Lib.hid (hc8.out.mono fun r w' h => by
                    obtain ⟨h1, h2, h3⟩ := h
                    refine ⟨?_, h2, h3⟩
                    rw [h1, hg0]
                    rfl)
                  replace hno := Lib.hid hno
                  clear hc8 hg hg0
                  go_upto_region 16 with (go_at_call 44; refine (hc9.out).mono ?_; rintro r w9 ⟨rfl, g9, k9⟩)
                  obtain ⟨W10, hW10⟩ : ∃ W10, w9.alloc (Obj.cells #[.int .i64 0, .int .i64 0] 57) = W10 := ⟨_, rfl⟩
                  have n10 : Nb w9 W10 := by rw [← hW10]; exact (Nb.refl w9).alloc _
                  have bJ : W10.heap[w9.heap.size]? = some (.cells #[.int .i64 0, .int .i64 0] 57 (0, 0)) := by rw [← hW10]; exact new_blk _ _ rfl
                  rw [hW10]
                  clear hW10
                  have m10 := (m8.gb h1 g9 k9).go n10
                  have hNJ : N < w9.heap.size := lt_blk (g9.block bN (Ne.symm hmN))
                  replace bN := n10.block (g9.block bN (Ne.symm hmN))
                  replace bS := n10.block (g9.block bS (Ne.symm hmS))
                  replace bV := n10.block (g9.block bV (Ne.symm hmV))
                  replace bK := n10.block (g9.block bK (Ne.symm hmK))
                  have g10 := g8.trans (g9.trans (Gb.of_nb n10))
                  obtain ⟨J, hJ⟩ : ∃ J, w9.heap.size = J := ⟨_, rfl⟩
                  rw [hJ] at bJ hNJ ⊢
                  clear hJ n10 g9 k9 m8 g8 qf z0 z1 z2 b8 n8 hc9
                  have c0 := cell_of_row _ _ 0 _ _ _ bS
                  have c1 := cell_of_row _ _ 1 _ _ _ bS
                  have f0 := frozen_blk bS 0
                  have f1 := frozen_blk bS 1
                  go_wp2_with fail
                  refine bodyPost_ret (results_rt rfl _ _ S _ rfl (run_loadVar_row _ _ _ _ _ _ _ (set2_all bS) Try.underlying57 rfl (by kernel_rfl))) rfl ?_
                  refine ⟨?_, (g10.far hSz _ _).far hSz _ _, (m10.keys.far hmS _ _).far hmS _ _⟩
                  rw [hno.out]
                  rfl
              · obtain rfl : i = L := by omega
                have htk : v.args.take i = v.args := by rw [← hLh.out, List.take_length]
                have hok : okV v ar = true := okV_all h4.out (by rw [hLh.out]; exact hm1.out) (by rw [← htk]; exact hR.all) ha3
                have bN := hR.bN
                rw [htk] at bN
                have hms := hR.ms
                have hgb := hR.gb
                have bS := hR.bS
                have bK := hR.bK
                obtain ⟨ws, hws⟩ : ∃ k : Nat, min (1 + i + sumL (v.args.map Vl.wd)) mxI = k := ⟨_, rfl⟩
                obtain ⟨ds, hds⟩ : ∃ k : Nat, maxL (v.args.map Vl.dp) = k := ⟨_, rfl⟩
                have hds2 : ar + (1 + ds) ≤ 64 := by
                  unfold okV at hok
                  rw [Bool.and_eq_true, decide_eq_true_eq, hdp.out, hds] at hok
                  exact hok.2
                have hq : SizeOk W0 bb oo i (.agg #[.int .i64 (ws : Int), .int .i64 ((ds : Int) + 1)]) := by
                  refine ⟨v.args, cap, hX.out, ?_, by rw [hds]; omega, ?_⟩
                  · rw [List.all_eq_true]
                    intro x hx
                    have := hR.all x (by rw [htk]; exact hx)
                    unfold okV at this
                    rw [Bool.and_eq_true] at this
                    exact this.1
                  · rw [hLh.out, hws, hds, show (ds : Int) + 1 = ((1 + ds : Nat) : Int) by omega]
                have hres : szV v true = .agg #[.int .i64 (ws : Int), .int .i64 ((ds : Int) + 1)] := by
                  unfold szV
                  rw [hwd.out, hdp.out, hLh.out, hws, hds, show (ds : Int) + 1 = ((1 + ds : Nat) : Int) by omega]
                rw [hws, hds] at bN
                clear hR
                replace hok := Lib.hid hok
                replace hws := Lib.hid hws
                replace hds := Lib.hid hds
                replace hq := Lib.hid hq
                replace hres := Lib.hid hres
                replace htk := Lib.hid htk
                have hd2 : (ds : Int) ≤ 63 := by omega
                have s1 := cell_of_row _ _ 1 _ _ _ bN
                have sf1 := frozen_blk bN 1
                go_upto_region 22 with (fail)
                obtain ⟨W12, hW12⟩ : ∃ W12, wr.setCell ⟨N, 1, none⟩ (.int .i64 ((ds : Int) + 1)) = W12 := ⟨_, rfl⟩
                have m12 : MsAt W0 mb kb fb W12 := by rw [← hW12]; exact hms.far hNz hmN hkN hfN _ _
                have g12 : Gb mb w W12 := by rw [← hW12]; exact hgb.far (by omega) _ _
                have bN2 : W12.heap[N]? = some (.cells #[.int .i64 (ws : Int), .int .i64 ((ds : Int) + 1)] 57 (0, 0)) := by rw [← hW12]; exact heap_setCell_same _ _ _ _ _ _ bN
                replace bS : W12.heap[S]? = some (.cells #[.int .i64 0, .int .i64 0] 57 (0, 0)) := by rw [← hW12, heap_setCell_other _ _ _ _ (show S ≠ N by omega)]; exact bS
                replace bK : W12.heap[K]? = some (.cells #[.pointer (some ⟨bb, oo, none⟩), .int .i64 (i : Int)] 77 (0, 0)) := by rw [← hW12, heap_setCell_other _ _ _ _ (show K ≠ N by omega)]; exact bK
                rw [hW12]
                clear hW12 s1 sf1 hms hgb bN
                have qm := cell_of_row _ _ 0 _ _ _ m12.kbox
                have k0 := cell_of_row _ _ 0 _ _ _ bK
                have k1 := cell_of_row _ _ 1 _ _ _ bK
                have s0 := cell_of_row _ _ 0 _ _ _ bN2
                have s1 := cell_of_row _ _ 1 _ _ _ bN2
                go_wp2_with (at_mapUpdate; refine wpList_put_key rfl _ _ _ rfl m12.keys m12.nb (b := bb) (of := oo) (n := i) hfb (v := .agg #[.int .i64 (ws : Int), .int .i64 ((ds : Int) + 1)]) hq.out rfl rfl rfl ?_; intro w13 k13 g13; have bN3 := Gb.block (cb := mb) g13 bN2 (Ne.symm hmN); have bS3 := Gb.block (cb := mb) g13 bS (Ne.symm hmS); have t0 := cell_of_row _ _ 0 _ _ _ bN3; have t1 := cell_of_row _ _ 1 _ _ _ bN3; have c0 := cell_of_row _ _ 0 _ _ _ bS3; have c1 := cell_of_row _ _ 1 _ _ _ bS3; have f0 := frozen_blk bS3 0; have f1 := frozen_blk bS3 1; have g14 : Gb mb w w13 := g12.trans g13)
                refine bodyPost_ret (results_rt rfl _ _ S _ rfl (run_loadVar_row _ _ _ _ _ _ _ (set2_all bS3) Try.underlying57 rfl (by kernel_rfl))) rfl ?_
                refine ⟨?_, (g14.far hSz _ _).far hSz _ _, (k13.far hmS _ _).far hmS _ _⟩
                rw [hok.out, hres.out]
                rfl
        · obtain ⟨l, c, hl, hla, hld, rfl⟩ := hu
          obtain rfl : l = v.args := vls_one hl hX.out
          obtain ⟨ws, hws⟩ : ∃ k : Nat, min (1 + v.args.length + sumL (v.args.map Vl.wd)) mxI = k := ⟨_, rfl⟩
          obtain ⟨ds, hds⟩ : ∃ k : Nat, 1 + maxL (v.args.map Vl.dp) = k := ⟨_, rfl⟩
          have hds1 : 1 ≤ ds := by omega
          have hds2 : ds ≤ 64 := by omega
          have hvm : v.may = true := by rw [hmay.out, hm1.out, hla]; rfl
          have hsz : szV v true = .agg #[.int .i64 (ws : Int), .int .i64 (ds : Int)] := by
            unfold szV
            rw [hwd.out, hdp.out, hws, hds]
          have hokd : okV v ar = decide (ar + ds ≤ 64) := by unfold okV; rw [hvm, hdp.out, hds]; rfl
          rw [hws, hds] at hrun
          dsimp only [keyV] at hrun
          replace hws := Lib.hid hws
          replace hds := Lib.hid hds
          replace hvm := Lib.hid hvm
          replace hsz := Lib.hid hsz
          replace hokd := Lib.hid hokd
          have hmx : max (ds : Int) 1 = (ds : Int) := by omega
          clear hl hla hld
          go_upto_region 7 with (fail)
          obtain ⟨W6, hW6⟩ : ∃ W6, W5.alloc (Obj.cells #[.int .i64 (ws : Int), .int .i64 (ds : Int)] 57) = W6 := ⟨_, rfl⟩
          have n6 : Nb W5 W6 := by rw [← hW6]; exact (Nb.refl W5).alloc _
          have bN : W6.heap[W5.heap.size]? = some (.cells #[.int .i64 (ws : Int), .int .i64 (ds : Int)] 57 (0, 0)) := by rw [← hW6]; exact new_blk _ _ rfl
          rw [hW6]
          clear hW6
          have h6 := h5.go n6
          have hKN : K < W5.heap.size := lt_blk bK
          replace bS := n6.block bS
          replace bV := n6.block bV
          replace bK := n6.block bK
          have g6 : Gb mb w W6 := g5.trans (Gb.of_nb n6)
          have hmN : mb ≠ W5.heap.size := by have := h5.lt; omega
          have hkN : kb ≠ W5.heap.size := by have := h5.lt; omega
          have hfN : fb ≠ W5.heap.size := by have := h5.lt; omega
          have hNz : W0.heap.size ≤ W5.heap.size := h5.nb.size
          obtain ⟨N, hN⟩ : ∃ N, W5.heap.size = N := ⟨_, rfl⟩
          rw [hN] at bN hKN hmN hkN hfN hNz ⊢
          clear hN n6 h5 g5 hf5 hrun q0 q1 qm bS0
          have s0 := cell_of_row _ _ 0 _ _ _ bN
          have s1 := cell_of_row _ _ 1 _ _ _ bN
          have sf0 := frozen_blk bN 0
          have sf1 := frozen_blk bN 1
          have c0 := cell_of_row _ _ 0 _ _ _ bS
          have c1 := cell_of_row _ _ 1 _ _ _ bS
          have f0 := frozen_blk bS 0
          have f1 := frozen_blk bS 1
          by_cases ha : ar + ds ≤ 64
          · have ha2 : (ar : Int) + (ds : Int) ≤ 64 := by omega
            have hno : okV v ar = true := by rw [hokd.out, decide_eq_true ha]
            replace hno := Lib.hid hno
            clear ha
            go_wp2_with fail
            refine bodyPost_ret (results_rt rfl _ _ S _ rfl (run_loadVar_row _ _ _ _ _ _ _ (set2_all bS) Try.underlying57 rfl (by kernel_rfl))) rfl ?_
            refine ⟨?_, (g6.far hSz _ _).far hSz _ _, (h6.keys.far hmS _ _).far hmS _ _⟩
            rw [hno.out, hsz.out]
            rfl
          · have ha2 : ¬ (ar : Int) + (ds : Int) ≤ 64 := by omega
            have hno : okV v ar = false := by rw [hokd.out, decide_eq_false ha]
            replace hno := Lib.hid hno
            clear ha
            go_wp2_with fail
            refine bodyPost_ret (results_rt rfl _ _ S _ rfl (run_loadVar_row _ _ _ _ _ _ _ (set2_all bS) Try.underlying57 rfl (by kernel_rfl))) rfl ?_
            refine ⟨?_, (g6.far hSz _ _).far hSz _ _, (h6.keys.far hmS _ _).far hmS _ _⟩
            rw [hno.out]
            rfl
      · have hv0 : v.dp = 0 := Vl.dp_leaf h4
        have hv1 : v.wd = 0 := Vl.wd_leaf h4
        have hL0 : L = 0 := by
          unfold mayHd at hm
          rw [if_neg h4] at hm
          split at hm
          · simp at hm; omega
          · split at hm
            · simp at hm; omega
            · cases hm
        have hargs : v.args = [] := List.eq_nil_of_length_eq_zero (by rw [hLh.out, hL0])
        have hno : okV v ar = true := by unfold okV; rw [hmay.out, hm, hargs, hv0]; simpa using har
        have hsz : szV v true = .agg #[.int .i64 0, .int .i64 0] := by unfold szV; rw [hv0, hv1]; rfl
        replace hno := Lib.hid hno
        replace hsz := Lib.hid hsz
        clear hm hv0 hv1 hargs hL0
        go_enter Try.func44, Try.ntmps44
        go_upto_region 1 with (fail)
        obtain ⟨W1, hW⟩ : ∃ W1, (w.alloc (Obj.cells #[.int .i64 v.kind, .int .i64 v.n, .slice A L cap] 24)).alloc (Obj.cells #[.int .i64 0, .int .i64 0] 57) = W1 := ⟨_, rfl⟩
        have n1 : Nb w W1 := by rw [← hW]; exact ((Nb.refl w).alloc _).alloc _
        have bS : W1.heap[w.heap.size + 1]? = some (.cells #[.int .i64 0, .int .i64 0] 57 (0, 0)) := by rw [← hW]; exact new_blk _ _ (by rw [World.size_alloc])
        have bV : W1.heap[w.heap.size]? = some (.cells #[.int .i64 v.kind, .int .i64 v.n, .slice A L cap] 24 (0, 0)) := by rw [← hW]; exact old_blk (new_blk _ _ rfl) _
        rw [hW]
        clear hW
        have hlt := hw.lt
        obtain ⟨S, hS⟩ : ∃ S, w.heap.size + 1 = S := ⟨_, rfl⟩
        obtain ⟨V, hV⟩ : ∃ V, w.heap.size = V := ⟨_, rfl⟩
        rw [hS] at bS ⊢
        rw [hV] at bV ⊢
        have hSz : w.heap.size ≤ S := by omega
        have hmS : mb ≠ S := by omega
        have hmV : mb ≠ V := by omega
        have hVS : V < S := by omega
        have hVz : w.heap.size ≤ V := by omega
        clear hS hV hlt
        have v0 := cell_of_row _ _ 0 _ _ _ bV
        have v1 := cell_of_row _ _ 1 _ _ _ bV
        have v2 := cell_of_row _ _ 2 _ _ _ bV
        go_wp2_with (first
          | (go_at_call 45; refine (headOf_any _ _ _ _ _ _).mono ?_; rintro r w2 ⟨rfl, n2⟩)
          | (go_at_call 46; refine (hm2.out _).mono ?_; rintro r w3 ⟨rfl, n3⟩; have b3 := (n2.trans n3).block bS; have c0 := cell_of_row _ _ 0 _ _ _ b3; have c1 := cell_of_row _ _ 1 _ _ _ b3; have f0 := frozen_blk b3 0; have f1 := frozen_blk b3 1; have k3 := (n2.trans n3).block bV; have v0 := cell_of_row _ _ 0 _ _ _ k3; have v1 := cell_of_row _ _ 1 _ _ _ k3; have v2 := cell_of_row _ _ 2 _ _ _ k3))
        refine bodyPost_ret (results_rt rfl _ _ S _ rfl (run_loadVar_row _ _ _ _ _ _ _ (set2_all b3) Try.underlying57 rfl (by kernel_rfl))) rfl ?_
        refine ⟨?_, ((Gb.of_nb (n1.trans (n2.trans n3))).far hSz _ _).far hSz _ _, (((hw.go (n1.trans (n2.trans n3))).keys).far hmS _ _).far hmS _ _⟩
        rw [hno.out, hsz.out]
        rfl
    · have hm0 : mayHd v.kind v.n L = false := by simpa using hm
      have hm1 := Lib.hid hm0
      have hm2 := Lib.hid (fun W => by simpa only [hm0] using may_any v.kind v.n L W)
      clear hm hm0
      have hno : okV v ar = false := by unfold okV; rw [hmay.out, hm1.out]; rfl
      replace hno := Lib.hid hno
      go_enter Try.func44, Try.ntmps44
      go_upto_region 1 with (fail)
      obtain ⟨W1, hW⟩ : ∃ W1, (w.alloc (Obj.cells #[.int .i64 v.kind, .int .i64 v.n, .slice A L cap] 24)).alloc (Obj.cells #[.int .i64 0, .int .i64 0] 57) = W1 := ⟨_, rfl⟩
      have n1 : Nb w W1 := by rw [← hW]; exact ((Nb.refl w).alloc _).alloc _
      have bS : W1.heap[w.heap.size + 1]? = some (.cells #[.int .i64 0, .int .i64 0] 57 (0, 0)) := by rw [← hW]; exact new_blk _ _ (by rw [World.size_alloc])
      have bV : W1.heap[w.heap.size]? = some (.cells #[.int .i64 v.kind, .int .i64 v.n, .slice A L cap] 24 (0, 0)) := by rw [← hW]; exact old_blk (new_blk _ _ rfl) _
      rw [hW]
      clear hW
      have hlt := hw.lt
      obtain ⟨S, hS⟩ : ∃ S, w.heap.size + 1 = S := ⟨_, rfl⟩
      obtain ⟨V, hV⟩ : ∃ V, w.heap.size = V := ⟨_, rfl⟩
      rw [hS] at bS ⊢
      rw [hV] at bV ⊢
      have hSz : w.heap.size ≤ S := by omega
      have hmS : mb ≠ S := by omega
      have hmV : mb ≠ V := by omega
      clear hS hV hlt
      have v0 := cell_of_row _ _ 0 _ _ _ bV
      have v1 := cell_of_row _ _ 1 _ _ _ bV
      have v2 := cell_of_row _ _ 2 _ _ _ bV
      go_wp2_with (first
        | (go_at_call 45; refine (headOf_any _ _ _ _ _ _).mono ?_; rintro r w2 ⟨rfl, n2⟩)
        | (go_at_call 46; refine (hm2.out _).mono ?_; rintro r w3 ⟨rfl, n3⟩; have b3 := (n2.trans n3).block bS; have c0 := cell_of_row _ _ 0 _ _ _ b3; have c1 := cell_of_row _ _ 1 _ _ _ b3; have f0 := frozen_blk b3 0; have f1 := frozen_blk b3 1))
      refine bodyPost_ret (results_rt rfl _ _ S _ rfl (run_loadVar_row _ _ _ _ _ _ _ (set2_all b3) Try.underlying57 rfl (by kernel_rfl))) rfl ?_
      refine ⟨?_, ((Gb.of_nb (n1.trans (n2.trans n3))).far hSz _ _).far hSz _ _, (((hw.go (n1.trans (n2.trans n3))).keys).far hmS _ _).far hmS _ _⟩
      rw [hno.out]
      rfl
end Go.Proofs.Ytmoggaecnjcjfaa
