/-
  Proved here: of the code: a program that is too deep may not be. Conditions: the memory holds it. ¦ of the reference: how deep a program is; whether one is light. Conditions: the memory holds it. ¦ of the law: whether a program is light. Conditions: the memory holds it.
-/
import Derived.Test.YtjibblpfhnigjaaDoorSaw
import Derived.Test.YtjibblpfhnigjaaDoorSas
import Derived.Test.YtjibblpfhnigjaaDoorSam
section
namespace Go.Proofs.YtjibblpfhnigjaaDoor
open Go.RowKit
set_option linter.unusedVariables false
set_option linter.unusedSimpArgs false
set_option maxRecDepth 100000
set_option maxHeartbeats 4000000
theorem good_deep (W0 : World) (e : Pg) (he : e.Has W0) (hd : 64 < dpP e) (w : World) (hw : Nb W0 w) :
    Calls Tryd.prog 9 #[.agg e.cells.toArray] w fun r w' => r = .returned (.bool false) ∧ Nb w w' := by
  go_enter Tryd.func9, Tryd.ntmps9
  go_upto_region 1 with (fail)
  obtain ⟨W1, hW1⟩ : ∃ W1, (w.alloc (Obj.cells e.cells.toArray 25)).alloc (Obj.cells #[.bool false] 4) = W1 := ⟨_, rfl⟩
  have n1 : Nb w W1 := by rw [← hW1]; exact ((Nb.refl w).alloc _).alloc _
  have b1 : W1.heap[w.heap.size]? = some (.cells e.cells.toArray 25 (0, 0)) := by rw [← hW1]; exact old_blk (new_blk w _ rfl) _
  have d1 : W1.heap[w.heap.size + 1]? = some (.cells #[.bool false] 4 (0, 0)) := by rw [← hW1]; exact new_blk _ _ (by rw [World.size_alloc])
  rw [hW1]
  clear hW1
  have hsize := Lib.hid (size_any W0 e he W1 (hw.trans n1))
  have hdep := Lib.hid (fun W2 (h : Nb W1 W2) => depth_any W0 e he W2 (hw.trans (n1.trans h)))
  obtain ⟨S, hS⟩ : ∃ S, min (szP e) 4097 = S := ⟨_, rfl⟩
  obtain ⟨D, hD⟩ : ∃ D, dpP e = D := ⟨_, rfl⟩
  rw [hS] at hsize
  rw [hD] at hdep hd
  clear hS hD
  have hD2 : (64 : Int) < (D : Int) := by omega
  by_cases h4 : (4096 : Int) < (S : Int)
  · go_wp2_with (first
      | (refine wpList_load_row rfl 25 (.tmp 1) rfl w.heap.size rfl 25 e.cells.toArray (0, 0) _ b1 Tryd.underlying25 rfl (show (Tryd.prog.info? 25).map (·.size) = some 4 by kernel_rfl) ?_)
      | (go_at_call 16; refine (hsize.out).mono ?_; clear hsize; rintro r w3 ⟨rfl, g3⟩; have d3 := g3.block d1; have q3 : w3.cell? ⟨w.heap.size + 1, 0, none⟩ = some (.bool false) := cell_of_row _ _ 0 _ _ _ d3; have f3 := frozen_blk d3 0))
    have hc : (w3.setCell ⟨w.heap.size + 1, 0, none⟩ (.bool false)).cell? ⟨w.heap.size + 1, 0, none⟩ = some (.bool false) := World.cell?_setCell_same' _ _ _ (by rw [q3]; rfl)
    exact bodyPost_ret (v := .bool false) (by simp [results, Tryd.f9, go_sem, hc]) rfl ⟨rfl, (n1.trans g3).setCell (by simp) _⟩
  · go_wp2_with (first
      | (refine wpList_load_row rfl 25 (.tmp 1) rfl w.heap.size rfl 25 e.cells.toArray (0, 0) _ b1 Tryd.underlying25 rfl (show (Tryd.prog.info? 25).map (·.size) = some 4 by kernel_rfl) ?_)
      | (go_at_call 16; refine (hsize.out).mono ?_; clear hsize; rintro r w3 ⟨rfl, g3⟩; have b3 := g3.block b1; have d3 := g3.block d1; have c0 : w3.cell? ⟨w.heap.size, 0, none⟩ = some e.dv := cell_of_row _ _ 0 _ _ _ b3; have c1 : w3.cell? ⟨w.heap.size, 1, none⟩ = some (.int .i64 e.at_) := cell_of_row _ _ 1 _ _ _ b3; have c2 : w3.cell? ⟨w.heap.size, 2, none⟩ = some (sV e.main) := cell_of_row _ _ 2 _ _ _ b3; have c3 : w3.cell? ⟨w.heap.size, 3, none⟩ = some e.av := cell_of_row _ _ 3 _ _ _ b3)
      | (refine wpList_load_row rfl 25 (.tmp 1) rfl w.heap.size rfl 25 e.cells.toArray (0, 0) _ b3 Tryd.underlying25 rfl (show (Tryd.prog.info? 25).map (·.size) = some 4 by kernel_rfl) ?_)
      | (go_at_call 8; refine (hdep.out _ g3).mono ?_; rintro r w4 ⟨rfl, g4⟩; have d4 := g4.block d3; have q4 : w4.cell? ⟨w.heap.size + 1, 0, none⟩ = some (.bool false) := cell_of_row _ _ 0 _ _ _ d4; have f4 := frozen_blk d4 0))
    have hc : (w4.setCell ⟨w.heap.size + 1, 0, none⟩ (.bool false)).cell? ⟨w.heap.size + 1, 0, none⟩ = some (.bool false) := World.cell?_setCell_same' _ _ _ (by rw [q4]; rfl)
    exact bodyPost_ret (v := .bool false) (by simp [results, Tryd.f9, go_sem, hc]) rfl ⟨rfl, (n1.trans (g3.trans g4)).setCell (by simp) _⟩
end Go.Proofs.YtjibblpfhnigjaaDoor
end
section
namespace Go.Proofs.YtjibblpfhnigjaaDoor
open Go.RowKit
set_option linter.unusedVariables false
set_option linter.unusedSimpArgs false
set_option maxRecDepth 100000
set_option maxHeartbeats 4000000
theorem rdepth_any (W0 : World) (e : Pg) (he : e.Has W0) (w : World) (hw : Nb W0 w) :
    Calls Tryd.prog 7 #[.agg e.cells.toArray] w fun r w' => r = .returned (.int .i64 ((dpP e : Nat) : Int)) ∧ Nb w w' := by
  obtain ⟨S0, hS0⟩ : ∃ S, dpEs 65 e.args = S := ⟨_, rfl⟩
  obtain ⟨L1, hL1⟩ : ∃ L, (e.defs.map fun d => dpB 65 d.body) = L := ⟨_, rfl⟩
  have hsz : dpP e = max S0 (maxL L1) := by rw [← hS0, ← hL1]; rfl
  obtain ⟨T, hT⟩ : ∃ T, dpP e = T := ⟨_, rfl⟩
  rw [hT]
  rw [hsz] at hT
  clear hsz
  have hT := Lib.hid hT
  have hL1 := Lib.hid hL1
  have hS0k : S0 ≤ 65 := by rw [← hS0]; exact dpEs_le 65 e.args
  go_enter Tryd.func7, Tryd.ntmps7
  go_upto_region 1 with (fail)
  obtain ⟨W1, hW⟩ : ∃ W1, w.alloc (Obj.cells e.cells.toArray 25) = W1 := ⟨_, rfl⟩
  have n1 : Nb w W1 := by rw [← hW]; exact (Nb.refl w).alloc _
  have b1 : W1.heap[w.heap.size]? = some (.cells e.cells.toArray 25 (0, 0)) := by rw [← hW]; exact new_blk w _ rfl
  rw [hW]
  clear hW
  have q3 : W1.cell? ⟨w.heap.size, 3, none⟩ = some e.av := cell_of_row _ _ 3 _ _ _ b1
  have hargs := Lib.hid (dexprs_any W0 65 (by omega) e.av e.args he.args W1 (hw.trans n1))
  rw [hS0] at hargs
  clear hS0
  go_upto_region 2 with (go_at_call 13; refine (hargs.out).mono ?_; rintro r w3 ⟨rfl, g3⟩)
  obtain ⟨A1, cap1, hav1, hcap1, hlen1, hz1⟩ := he.drow.head
  have hX1 := Lib.hid (show RowS W0 12 (.slice A1 (e.defs.map Df.cells).length cap1) (e.defs.map Df.cells) by rw [← hav1]; exact he.drow)
  have hK1 := Lib.hid he.body
  rw [List.length_map] at hav1 hcap1 hlen1 hX1
  obtain ⟨M1, hM1⟩ : ∃ N, e.defs.length = N := ⟨_, rfl⟩
  have hMh1 := Lib.hid hM1
  rw [hM1] at hav1 hcap1 hlen1 hX1
  have hav1 := Lib.hid hav1
  have b3 := g3.block b1
  have n3 := n1.trans g3
  have hT1 := Lib.hid (show max S0 (maxL (L1.drop 0)) = T by rw [List.drop_zero]; exact hT.out)
  clear hM1 b1 q3 hargs g3 n1
  go_wp2_with fail
  go_loopw [3, 4] (fun sd si wr => ∃ i d : Nat, i ≤ M1 ∧ d ≤ 65 ∧ sd = .int .i64 d ∧ si = .int .i64 i ∧ Hid (max d (maxL (L1.drop i)) = T) ∧ Nb w3 wr) (fun _ si _ => M1 - (intOf si).toNat)
  case atStart => exact ⟨0, S0, Nat.zero_le _, hS0k, rfl, rfl, hT1, Nb.refl _⟩
  case round =>
    obtain ⟨i, d, hi, hd, rfl, rfl, hR, hg3⟩ := hrel
    have b4 := hg3.block b3
    have q4 : wr.cell? ⟨w.heap.size, 0, none⟩ = some (.slice A1 M1 cap1) := (cell_of_row _ _ 0 _ _ _ b4).trans (congrArg some hav1.out)
    by_cases hlt2 : i < M1
    · have hlt3 : (i : Int) < (M1 : Int) := by omega
      obtain ⟨x, hx⟩ : ∃ x, e.defs[i]? = some x := ⟨_, List.getElem?_eq_getElem (by rw [hMh1.out]; exact hlt2)⟩
      obtain ⟨b, o, rfl, hxc⟩ := hX1.out.at_ (i := i) (r := x.cells) (by rw [List.getElem?_map, hx]; rfl)
      have hnb : Nb W0 wr := hw.trans (n3.trans hg3)
      have hxs : maxL (L1.drop i) = max (dpB 65 x.body) (maxL (L1.drop (i + 1))) := max_drop (by rw [← hL1.out, List.getElem?_map, hx]; rfl)
      have hbody := Lib.hid (dbody_any W0 65 (by omega) x.body (hK1.out x (List.mem_of_getElem? hx)) wr hnb)
      have hle2 := dpB_le 65 x.body
      have hR2 := Lib.hid (show max (max d (dpB 65 x.body)) (maxL (L1.drop (i + 1))) = T by rw [← hR.out, hxs]; omega)
      have y3 := hnb.cell (hxc 3 _ rfl)
      have y4 := hnb.cell (hxc 4 _ rfl)
      have y5 := hnb.cell (hxc 5 _ rfl)
      have y6 := hnb.cell (hxc 6 _ rfl)
      have y7 := hnb.cell (hxc 7 _ rfl)
      have y8 := hnb.cell (hxc 8 _ rfl)
      have y9 := hnb.cell (hxc 9 _ rfl)
      have y10 := hnb.cell (hxc 10 _ rfl)
      have y11 := hnb.cell (hxc 11 _ rfl)
      generalize dpB 65 x.body = D at hbody hle2 hR2
      clear hx hxc hR hxs
      go_wp2_with (go_at_call 14; refine (hbody.out).mono ?_; rintro r w5 ⟨rfl, g5⟩)
      exact ⟨⟨i + 1, max d D, by omega, by omega, by first | rfl | (congr 1; split <;> omega), by simp, hR2, hg3.trans g5⟩, by simp [intOf] <;> omega⟩
    · obtain rfl : i = M1 := by omega
      have hT2 : d = T := by
        have := hR.out
        rw [List.drop_eq_nil_of_le (by rw [← hL1.out, List.length_map, hMh1.out]; exact Nat.le_refl _)] at this
        rw [← this]
        show d = max d 0
        omega
      subst hT2
      clear hR
      go_wp2_with fail
      go_ret
      exact ⟨rfl, n3.trans hg3⟩
end Go.Proofs.YtjibblpfhnigjaaDoor
end
section
namespace Go.Proofs.YtjibblpfhnigjaaDoor
open Go.RowKit
set_option linter.unusedVariables false
set_option linter.unusedSimpArgs false
set_option maxRecDepth 100000
set_option maxHeartbeats 4000000
/-- Whether a program is light: at most 70 actors, 800 parts, 40 levels. -/
def Pg.light (e : Pg) : Bool := decide (e.defs.length ≤ 70) && decide (min (szP e) 4097 ≤ 800) && decide (dpP e ≤ 40)
theorem light_any (W0 : World) (e : Pg) (he : e.Has W0) (w : World) (hw : Nb W0 w) :
    Calls Tryd.prog 5 #[.agg e.cells.toArray] w fun r w' => r = .returned (.bool e.light) ∧ Nb w w' := by
  obtain ⟨A1, cap1, hav1, hcap1, hlen1, hz1⟩ := he.drow.head
  rw [List.length_map] at hav1 hcap1 hlen1
  have hB : e.light = (decide (e.defs.length ≤ 70) && decide (min (szP e) 4097 ≤ 800) && decide (dpP e ≤ 40)) := rfl
  obtain ⟨B, hBB⟩ : ∃ B, e.light = B := ⟨_, rfl⟩
  rw [hBB] at hB ⊢
  clear hBB
  have hB := Lib.hid hB
  have hav1 := Lib.hid hav1
  go_enter Tryd.func5, Tryd.ntmps5
  go_upto_region 1 with (fail)
  obtain ⟨W1, hW⟩ : ∃ W1, w.alloc (Obj.cells e.cells.toArray 25) = W1 := ⟨_, rfl⟩
  have n1 : Nb w W1 := by rw [← hW]; exact (Nb.refl w).alloc _
  have b1 : W1.heap[w.heap.size]? = some (.cells e.cells.toArray 25 (0, 0)) := by rw [← hW]; exact new_blk w _ rfl
  rw [hW]
  clear hW
  have q0 : W1.cell? ⟨w.heap.size, 0, none⟩ = some (.slice A1 e.defs.length cap1) := (cell_of_row _ _ 0 _ _ _ b1).trans (congrArg some hav1.out)
  have q1 : W1.cell? ⟨w.heap.size, 1, none⟩ = some (.int .i64 e.at_) := cell_of_row _ _ 1 _ _ _ b1
  have q2 : W1.cell? ⟨w.heap.size, 2, none⟩ = some (sV e.main) := cell_of_row _ _ 2 _ _ _ b1
  have q3 : W1.cell? ⟨w.heap.size, 3, none⟩ = some e.av := cell_of_row _ _ 3 _ _ _ b1
  have hcl : e.cells = [.slice A1 e.defs.length cap1, .int .i64 e.at_, sV e.main, e.av] := by rw [← hav1.out]; rfl
  have hsize := rsize_any W0 e he W1 (hw.trans n1)
  have hdep := fun W2 (h2 : Nb W1 W2) => rdepth_any W0 e he W2 (hw.trans (n1.trans h2))
  rw [hcl] at hsize
  simp only [hcl] at hdep
  have hsize := Lib.hid hsize
  have hdep := Lib.hid hdep
  rw [hcl]
  clear hcl
  obtain ⟨S, hS⟩ : ∃ S, min (szP e) 4097 = S := ⟨_, rfl⟩
  obtain ⟨D, hD⟩ : ∃ D, dpP e = D := ⟨_, rfl⟩
  rw [hS] at hsize hB
  rw [hD] at hdep hB
  clear hS hD
  by_cases h70 : e.defs.length ≤ 70
  · have g70 : decide ((e.defs.length : Int) ≤ 70) = true := by simp; omega
    by_cases h800 : S ≤ 800
    · have g800 : decide ((S : Int) ≤ 800) = true := by simp; omega
      by_cases h40 : D ≤ 40
      · have g40 : decide ((D : Int) ≤ 40) = true := by simp; omega
        go_wp2_with (first
          | (go_at_call 12; refine (hsize.out).mono ?_; clear hsize; rintro r w3 ⟨rfl, g3⟩; have c0 := g3.cell q0; have c1 := g3.cell q1; have c2 := g3.cell q2; have c3 := g3.cell q3)
          | (go_at_call 7; refine (hdep.out _ g3).mono ?_; rintro r w4 ⟨rfl, g4⟩))
        go_ret
        exact ⟨by rw [hB.out]; simp [h70, h800, h40], n1.trans (g3.trans g4)⟩
      · have g40 : decide ((D : Int) ≤ 40) = false := by simp; omega
        go_wp2_with (first
          | (go_at_call 12; refine (hsize.out).mono ?_; clear hsize; rintro r w3 ⟨rfl, g3⟩; have c0 := g3.cell q0; have c1 := g3.cell q1; have c2 := g3.cell q2; have c3 := g3.cell q3)
          | (go_at_call 7; refine (hdep.out _ g3).mono ?_; rintro r w4 ⟨rfl, g4⟩))
        go_ret
        exact ⟨by rw [hB.out]; simp [h70, h800, h40], n1.trans (g3.trans g4)⟩
    · have g800 : decide ((S : Int) ≤ 800) = false := by simp; omega
      go_wp2_with (go_at_call 12; refine (hsize.out).mono ?_; clear hsize; rintro r w3 ⟨rfl, g3⟩)
      go_ret
      exact ⟨by rw [hB.out]; simp [h70, h800], n1.trans g3⟩
  · have g70 : decide ((e.defs.length : Int) ≤ 70) = false := by simp; omega
    go_wp2_with (fail)
    go_ret
    exact ⟨by rw [hB.out]; simp [h70], n1⟩
end Go.Proofs.YtjibblpfhnigjaaDoor
end
