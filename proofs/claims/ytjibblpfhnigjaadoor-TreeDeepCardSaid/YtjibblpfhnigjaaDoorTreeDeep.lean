/-
  Proved here: a tree that is deeper than may be is none, however deep it is; its depth is told up to the limit. No condition but that the laid tables hold what their texts lay.
-/
import Derived.Test.YtjibblpfhnigjaaDoorSax
import Derived.Test.YtjibblpfhnigjaaDoorSbt
import Derived.Test.YtjibblpfhnigjaaDoorCards
import Derived.Test.YtjibblpfhnigjaaDoorTie
import Derived.SevenTiedAt
namespace Go.Proofs.YtjibblpfhnigjaaDoor.treeDeep
open Go.ChangeShapes Go.WideShapes Go.ChangeAt Go.RowKit
set_option linter.unusedVariables false
set_option linter.unusedSimpArgs false
set_option maxRecDepth 100000
set_option maxHeartbeats 4000000
theorem bel_setRow {B g : Nat} {a b : World} (h : Below B a b) (hg : B ≤ g) (cs : Array Value) : Below B a (b.setRow g cs) :=
  ⟨h.os, h.tape, h.output, by rw [size_setRow]; exact h.size, fun k hk => (setRow_other b g k cs (by omega)).trans (Below.block h k hk)⟩
theorem light_args (p : Pg) : p.cells.toArray = #[p.dv, .int .i64 p.at_, sV p.main, p.av] := rfl
theorem walk0 (p : Pg) (n : Int) (W : World) (hT : Tw W) (hp : p.Has W) (hl : p.light = false ∨ p.args = []) :
    Calls Tryd.prog 3 #[.agg p.cells.toArray, .int .i64 n] W fun r w' => r = .returned (.bool true) ∧ Nb W w' := by
  obtain ⟨A0, cap0, hv0, -, -, -⟩ := hp.args.head
  try rw [List.length_map] at hv0
  have hlight := Lib.hid (light_any W p hp)
  have hlives := Lib.hid (fun w (h : Nb W w) => lives_any w (var_nbT hT h))
  go_enter Tryd.func3, Tryd.ntmps3
  go_upto_region 1 with (fail)
  obtain ⟨W1, hW1⟩ : ∃ W1, W.alloc (Obj.cells p.cells.toArray 25) = W1 := ⟨_, rfl⟩
  have n1 : Nb W W1 := by rw [← hW1]; exact alloc_nb _ _
  have b1 : W1.heap[W.heap.size]? = some (.cells p.cells.toArray 25 (0, 0)) := by rw [← hW1]; exact new_blk _ _ rfl
  rw [hW1]
  clear hW1
  cases hlg : p.light with
  | false =>
    rw [hlg] at hlight
    go_wp2_with (first
      | (refine wpList_load_row rfl 25 (.tmp 2) rfl W.heap.size rfl 25 p.cells.toArray (0, 0) _ b1 Tryd.underlying25 rfl (show (Tryd.prog.info? 25).map (·.size) = some 4 by kernel_rfl) ?_)
      | (go_at_call 5; refine (hlight.out _ n1).mono ?_; rintro r w3 ⟨rfl, g3⟩)
      | (go_at_call 6; refine (hlives.out _ (n1.trans g3)).mono ?_; rintro r w4 ⟨rfl, g4⟩))
    go_ret
    exact ⟨rfl, n1.trans (g3.trans g4)⟩
  | true =>
    have ha : p.args = [] := by
      rcases hl with h | h
      · rw [hlg] at h; cases h
      · exact h
    rw [ha, List.length_nil] at hv0
    rw [hlg] at hlight
    go_wp2_with (first
      | (refine wpList_load_row rfl 25 (.tmp 2) rfl W.heap.size rfl 25 p.cells.toArray (0, 0) _ b1 Tryd.underlying25 rfl (show (Tryd.prog.info? 25).map (·.size) = some 4 by kernel_rfl) ?_)
      | (go_at_call 5; refine (hlight.out _ n1).mono ?_; rintro r w3 ⟨rfl, g3⟩; have b3 := g3.block b1; have y3 : w3.cell? ⟨W.heap.size, 3, none⟩ = some (.slice A0 0 cap0) := (by rw [← hv0]; exact cell_of_row _ _ 3 _ _ _ b3))
      | (go_at_call 6; refine (hlives.out _ (n1.trans g3)).mono ?_; rintro r w4 ⟨rfl, g4⟩))
    go_ret
    exact ⟨rfl, n1.trans (g3.trans g4)⟩
theorem walk1 (p : Pg) (n : Int) (W : World) (hT : Tw W) (hp : p.Has W) (hlg : p.light = true) (x0 : Ex) (rest : List Ex) (ha : p.args = x0 :: rest) :
    Calls Tryd.prog 3 #[.agg p.cells.toArray, .int .i64 n] W fun r w' => r = .returned (.bool true) ∧ Nb W w' := by
  obtain ⟨A0, cap0, hv0, -, -, -⟩ := hp.args.head
  try rw [List.length_map] at hv0
  have hx0 : x0.Has W := hp.args.kids x0 (by rw [ha]; simp)
  have hrow := hp.args.row
  rw [hv0, ha] at hrow
  obtain ⟨bb, o0, rfl, hx0c⟩ := hrow.at_ (i := 0) (r := x0.cells) rfl
  rw [ha] at hv0
  obtain ⟨A1, c1, hv1, -, -, -⟩ := hx0.exs.head
  try rw [List.length_map] at hv1
  obtain ⟨L1, hL1⟩ : ∃ L, x0.args.length = L := ⟨_, rfl⟩
  rw [hL1] at hv1
  clear hL1
  have hx4 : x0.cells[4]? = some (.slice A1 L1 c1) := by rw [← hv1]; rfl
  have hlen0 : ¬ ((x0 :: rest).length : Int) = 0 := by rw [List.length_cons]; omega
  obtain ⟨M, hM⟩ : ∃ M, (x0 :: rest).length = M := ⟨_, rfl⟩
  have hM0 : 0 < M := by rw [← hM]; simp
  rw [hM] at hv0 hlen0
  clear hM hrow
  have hlight := Lib.hid (light_any W p hp)
  rw [hlg] at hlight
  have hlives := Lib.hid (fun w (h : Nb W w) => lives_any w (var_nbT hT h))
  go_enter Tryd.func3, Tryd.ntmps3
  go_upto_region 1 with (fail)
  obtain ⟨W1, hW1⟩ : ∃ W1, W.alloc (Obj.cells p.cells.toArray 25) = W1 := ⟨_, rfl⟩
  have n1 : Nb W W1 := by rw [← hW1]; exact alloc_nb _ _
  have b1 : W1.heap[W.heap.size]? = some (.cells p.cells.toArray 25 (0, 0)) := by rw [← hW1]; exact new_blk _ _ rfl
  rw [hW1]
  clear hW1
  have hM1 : ((0 : Nat) : Int) < (M : Int) := by omega
  go_upto_region 5 with (first
      | (refine wpList_load_row rfl 25 (.tmp 2) rfl W.heap.size rfl 25 p.cells.toArray (0, 0) _ b1 Tryd.underlying25 rfl (show (Tryd.prog.info? 25).map (·.size) = some 4 by kernel_rfl) ?_)
      | (go_at_call 5; refine (hlight.out _ n1).mono ?_; rintro r w3 ⟨rfl, g3⟩; have b3 := g3.block b1; have y3 : w3.cell? ⟨W.heap.size, 3, none⟩ = some (.slice (some ⟨bb, o0, none⟩) M cap0) := (by rw [← hv0]; exact cell_of_row _ _ 3 _ _ _ b3); have y0 : w3.cell? ⟨W.heap.size, 0, none⟩ = some p.dv := cell_of_row _ _ 0 _ _ _ b3; have y2 : w3.cell? ⟨W.heap.size, 2, none⟩ = some (sV p.main) := cell_of_row _ _ 2 _ _ _ b3; have z0 := (n1.trans g3).cell (hx0c 0 _ rfl); have z1 := (n1.trans g3).cell (hx0c 1 _ rfl); have z2 := (n1.trans g3).cell (hx0c 2 _ rfl); have z3 := (n1.trans g3).cell (hx0c 3 _ rfl); have z4 := (n1.trans g3).cell (hx0c 4 _ hx4); simp only [Nat.zero_mul, Nat.add_zero] at z0 z1 z2 z3 z4))
  obtain ⟨k, hk, hkv⟩ : ∃ k : Nat, k < 200 ∧ wrap64 ((IntKind.u64.wrap n).tmod 200) = (k : Int) := by
    have h1 := IntKind.wrap_u64 n
    have h2 : 0 ≤ IntKind.u64.wrap n := by rw [h1]; omega
    obtain ⟨u, hu⟩ := Int.eq_ofNat_of_zero_le h2
    refine ⟨u % 200, Nat.mod_lt _ (by decide), ?_⟩
    rw [hu]
    have h3 : ((u : Int).tmod 200) = ((u % 200 : Nat) : Int) := by
      rw [Int.tmod_eq_emod_of_nonneg (Int.natCast_nonneg u)]
      exact (Int.natCast_emod u 200).symm
    rw [h3]
    have h4 : u % 200 < 200 := Nat.mod_lt _ (by decide)
    unfold wrap64
    omega
  rw [hkv]
  have hcx : x0.cells.toArray = #[.int .i64 x0.kind, .int .i64 x0.at_, .int .i64 x0.n, sV x0.name, .slice A1 L1 c1] := by rw [← hv1]; rfl
  obtain ⟨W4, hW4⟩ : ∃ W4, w3.alloc (.cells #[.int .i64 x0.kind, .int .i64 x0.at_, .int .i64 x0.n, sV x0.name, .slice A1 L1 c1] 30) = W4 := ⟨_, rfl⟩
  have n4 : Nb w3 W4 := by rw [← hW4]; exact alloc_nb _ _
  have b4 : W4.heap[w3.heap.size]? = some (.cells #[.int .i64 x0.kind, .int .i64 x0.at_, .int .i64 x0.n, sV x0.name, .slice A1 L1 c1] 30 (0, 0)) := by rw [← hW4]; exact new_blk _ _ rfl
  rw [show w3.alloc (.cells #[.int .i64 x0.kind, .int .i64 x0.at_, .int .i64 x0.n, .string ⟨List.toArray x0.name⟩, .slice A1 L1 c1] 30) = W4 from hW4]
  clear hW4 z0 z1 z2 z3 z4 y0 y2 y3
  have nW4 : Nb W W4 := n1.trans (g3.trans n4)
  have a0 := cell_of_row _ _ 0 _ _ _ b4
  have a1 := cell_of_row _ _ 1 _ _ _ b4
  have a2 := cell_of_row _ _ 2 _ _ _ b4
  have a3 := cell_of_row _ _ 3 _ _ _ b4
  have a4 := cell_of_row _ _ 4 _ _ _ b4
  go_wp2_with (go_at_call 7; refine (rdepth_any _ (onePg W4.heap.size x0) (onePg_has (by rw [hcx]; exact new_blk _ _ rfl) (hx0.nb (nW4.trans (alloc_nb _ _)))) _ (Nb.refl _)).mono ?_; rintro r w6 ⟨rfl, g6⟩)
  rw [onePg_dp]
  obtain ⟨d, hd⟩ : ∃ d, dpE 65 x0 = d := ⟨_, rfl⟩
  have hd65 : d ≤ 65 := by rw [← hd]; exact dpE_le 65 x0
  rw [hd]
  have nW6 : Nb W w6 := nW4.trans ((alloc_nb _ _).trans g6)
  have b6 : w6.heap[w3.heap.size]? = some (.cells x0.cells.toArray 30 (0, 0)) := by rw [hcx]; exact ((alloc_nb _ _).trans g6).block b4
  have p6 : w6.heap[W.heap.size]? = some (.cells p.cells.toArray 25 (0, 0)) := (n4.trans ((alloc_nb _ _).trans g6)).block b3
  have sE : W.heap.size + 1 ≤ w3.heap.size := lt_blk b3
  have sE6 : w3.heap.size < w6.heap.size := lt_blk b6
  obtain ⟨E, hE⟩ : ∃ E, w3.heap.size = E := ⟨_, rfl⟩
  obtain ⟨V4, hV4⟩ : ∃ V, W4.heap.size = V := ⟨_, rfl⟩
  rw [hE] at b6 sE sE6 ⊢
  rw [hV4]
  clear hE hV4 b4 a0 a1 a2 a3 a4 g6 n4 b3 g3 b1 n1 nW4
  have hx6 : x0.Has w6 := hx0.nb nW6
  go_loopw [33] (fun si wr => ∃ i : Nat, i ≤ k ∧ si = .int .i64 i ∧ wr.heap[E]? = some (.cells (wrapE w6.heap.size x0 i).cells.toArray 30 (0, 0)) ∧ wr.heap.size = w6.heap.size + i ∧ (∀ j, j < i → wr.heap[w6.heap.size + j]? = some (.cells (wrapE w6.heap.size x0 j).cells.toArray 30 (0, 0))) ∧ Below E w6 wr) (fun si _ => k - (intOf si).toNat)
  case atStart => exact ⟨0, Nat.zero_le _, rfl, b6, rfl, fun j hj => absurd hj (Nat.not_lt_zero _), Below.refl _ _⟩
  case round =>
    obtain ⟨i, hi2, rfl, hbox, hsz, hch, hbl⟩ := hrel
    have hnW : Nb W wr := Below.trans nW6 (Below.mono hbl (by omega))
    have hhas := wrapE_has (hx0.nb hnW) i hch
    obtain ⟨u, hu⟩ : ∃ u, wrapE w6.heap.size x0 i = u := ⟨_, rfl⟩
    have huh := Lib.hid hu
    rw [hu] at hhas hbox
    obtain ⟨Au, cu, hvu, -, -, -⟩ := hhas.exs.head
    try rw [List.length_map] at hvu
    obtain ⟨Lu, hLu⟩ : ∃ L, u.args.length = L := ⟨_, rfl⟩
    rw [hLu] at hvu
    clear hLu hu
    have hcu : u.cells.toArray = #[.int .i64 u.kind, .int .i64 u.at_, .int .i64 u.n, sV u.name, .slice Au Lu cu] := by rw [← hvu]; rfl
    rw [hcu] at hbox
    have a0 := cell_of_row _ _ 0 _ _ _ hbox
    have a1 := cell_of_row _ _ 1 _ _ _ hbox
    have a2 := cell_of_row _ _ 2 _ _ _ hbox
    have a3 := cell_of_row _ _ 3 _ _ _ hbox
    have a4 := cell_of_row _ _ 4 _ _ _ hbox
    replace hch := Lib.hid hch
    replace hhas := Lib.hid hhas
    replace hsz := Lib.hid hsz
    by_cases hlt2 : i < k
    · have hlt3 : (i : Int) < (k : Int) := by omega
      go_wp2_with (refine wpList_store_row rfl 30 (.tmp 6) (.tmp 37) rfl E #[.int .i64 5, .int .i64 0, .int .i64 0, .string ⟨#[]⟩, .slice (some ⟨wr.heap.size, 0, none⟩) 1 1] rfl rfl 30 #[.int .i64 u.kind, .int .i64 u.at_, .int .i64 u.n, sV u.name, .slice Au Lu cu] (old_blk hbox _) (show (Tryd.prog.info? 30).map (·.size) = some 5 by kernel_rfl) rfl (by simp [Value.oneCell']) ?_)
      obtain ⟨W7, hW7⟩ : ∃ W7, wr.alloc (.cells #[.int .i64 u.kind, .int .i64 u.at_, .int .i64 u.n, sV u.name, .slice Au Lu cu] 30) = W7 := ⟨_, rfl⟩
      have n7 : Nb wr W7 := by rw [← hW7]; exact alloc_nb _ _
      have k7 : W7.heap[wr.heap.size]? = some (.cells #[.int .i64 u.kind, .int .i64 u.at_, .int .i64 u.n, sV u.name, .slice Au Lu cu] 30 (0, 0)) := by rw [← hW7]; exact new_blk _ _ rfl
      have s7 : W7.heap.size = wr.heap.size + 1 := by rw [← hW7, World.size_alloc]
      rw [show wr.alloc (.cells #[.int .i64 u.kind, .int .i64 u.at_, .int .i64 u.n, sV u.name, .slice Au Lu cu] 30) = W7 from hW7]
      clear hW7
      go_wp2_with fail
      have hE7 : W7.heap[E]? = some (.cells #[.int .i64 u.kind, .int .i64 u.at_, .int .i64 u.n, sV u.name, .slice Au Lu cu] 30 (0, 0)) := n7.block hbox
      refine ⟨⟨i + 1, by omega, by simp, ?_, ?_, ?_, ?_⟩, by simp [intOf] <;> omega⟩
      · rw [setRow_heap _ _ _ _ _ _ hE7]
        rw [hsz.out]
        rfl
      · rw [setRow_size, s7, hsz.out]
        omega
      · intro j hj
        rw [setRow_other _ _ _ _ (by omega)]
        by_cases hji : j < i
        · exact n7.block (hch.out j hji)
        · obtain rfl : j = i := by omega
          rw [← hsz.out, huh.out, hcu]
          exact k7
      · exact bel_setRow (hbl.trans (Below.mono n7 (by have := hbl.size; omega))) (Nat.le_refl _) _
    · obtain rfl : i = k := by omega
      have p7 : wr.heap[W.heap.size]? = some (.cells p.cells.toArray 25 (0, 0)) := (Below.block hbl _ (by omega)).trans p6
      obtain ⟨Ad, cd, hvd, -, -, -⟩ := hp.drow.head
      rw [List.length_map] at hvd
      obtain ⟨Ld, hLd⟩ : ∃ L, p.defs.length = L := ⟨_, rfl⟩
      rw [hLd] at hvd
      clear hLd
      have y0 : wr.cell? ⟨W.heap.size, 0, none⟩ = some (.slice Ad Ld cd) := by rw [← hvd]; exact cell_of_row _ _ 0 _ _ _ p7
      have y2 : wr.cell? ⟨W.heap.size, 2, none⟩ = some (sV p.main) := cell_of_row _ _ 2 _ _ _ p7
      have hdu : dpE 65 u = min (d + i) 65 := by rw [← huh.out, dpE_wrap, hd]
      clear p6 b6 hch hsz huh hbl p7
      go_upto_region 11 with (fail)
      obtain ⟨K1, hK1⟩ : ∃ K, wr.heap.size = K := ⟨_, rfl⟩
      obtain ⟨W7, hW7⟩ : ∃ W7, (wr.alloc (.cells #[.int .i64 u.kind, .int .i64 u.at_, .int .i64 u.n, sV u.name, .slice Au Lu cu] 30)).alloc (.cells #[.slice Ad Ld cd, .int .i64 0, sV p.main, .slice (some ⟨K1, 0, none⟩) 1 1] 25) = W7 := ⟨_, rfl⟩
      have n7 : Nb wr W7 := by rw [← hW7]; exact ((Nb.refl wr).alloc _).alloc _
      have k1 : W7.heap[K1]? = some (.cells #[.int .i64 u.kind, .int .i64 u.at_, .int .i64 u.n, sV u.name, .slice Au Lu cu] 30 (0, 0)) := by rw [← hW7]; exact old_blk (new_blk _ _ hK1) _
      have k2 : W7.heap[K1 + 1]? = some (.cells #[.slice Ad Ld cd, .int .i64 0, sV p.main, .slice (some ⟨K1, 0, none⟩) 1 1] 25 (0, 0)) := by rw [← hW7]; exact new_blk _ _ (by rw [World.size_alloc, hK1])
      have s7 : W7.heap.size = K1 + 1 + 1 := by rw [← hW7, World.size_alloc, World.size_alloc, hK1]
      rw [hK1]
      rw [show (wr.alloc (.cells #[.int .i64 u.kind, .int .i64 u.at_, .int .i64 u.n, sV u.name, .slice Au Lu cu] 30)).alloc (.cells #[.slice Ad Ld cd, .int .i64 0, .string ⟨List.toArray p.main⟩, .slice (some ⟨K1, 0, none⟩) 1 1] 25) = W7 from hW7]
      have e7 := n7.block hbox
      clear hW7 a0 a1 a2 a3 a4 y0 y2 hK1
      have a0 := cell_of_row _ _ 0 _ _ _ e7
      have a1 := cell_of_row _ _ 1 _ _ _ e7
      have a2 := cell_of_row _ _ 2 _ _ _ e7
      have a3 := cell_of_row _ _ 3 _ _ _ e7
      have a4 := cell_of_row _ _ 4 _ _ _ e7
      go_upto_region 12 with (fail)
      try rw [s7]
      obtain ⟨W8, hW8⟩ : ∃ W8, (W7.alloc (.cells #[.int .i64 u.kind, .int .i64 u.at_, .int .i64 u.n, sV u.name, .slice Au Lu cu] 30)).alloc (.cells #[.slice none 0 0, .int .i64 0, .string ⟨#[]⟩, .slice (some ⟨K1 + 1 + 1, 0, none⟩) 1 1] 25) = W8 := ⟨_, rfl⟩
      have n8 : Nb W7 W8 := by rw [← hW8]; exact ((Nb.refl W7).alloc _).alloc _
      have k3 : W8.heap[K1 + 1 + 1]? = some (.cells #[.int .i64 u.kind, .int .i64 u.at_, .int .i64 u.n, sV u.name, .slice Au Lu cu] 30 (0, 0)) := by rw [← hW8]; exact old_blk (new_blk _ _ s7) _
      have k4 : W8.heap[K1 + 1 + 1 + 1]? = some (.cells #[.slice none 0 0, .int .i64 0, .string ⟨#[]⟩, .slice (some ⟨K1 + 1 + 1, 0, none⟩) 1 1] 25 (0, 0)) := by rw [← hW8]; exact new_blk _ _ (by rw [World.size_alloc, s7])
      rw [hW8]
      clear hW8 a0 a1 a2 a3 a4
      have hu8 : u.Has W8 := hhas.out.nb (n7.trans n8)
      have hnW8 : Nb W W8 := hnW.trans (n7.trans n8)
      have hxP : (onePg (K1 + 1 + 1) u).Has W8 := onePg_has (by rw [hcu]; exact k3) hu8
      have hdep := Lib.hid (depth_any W8 (onePg (K1 + 1 + 1) u) hxP W8 (Nb.refl _))
      rw [onePg_dp, hdu, show (onePg (K1 + 1 + 1) u).cells.toArray = #[.slice none 0 0, .int .i64 0, .string ⟨#[]⟩, .slice (some ⟨K1 + 1 + 1, 0, none⟩) 1 1] from rfl] at hdep
      obtain ⟨Q, hQ⟩ : ∃ Q : Pg, (⟨p.dv, p.defs, 0, p.main, .slice (some ⟨K1, 0, none⟩) 1 1, [u]⟩ : Pg) = Q := ⟨_, rfl⟩
      have hpN := hp.nb hnW8
      have hQh : Q.Has W8 := by rw [← hQ]; exact ⟨hpN.drow, hpN.prow, hpN.body, one_row (by rw [hcu]; exact n8.block k1) hu8, hpN.dnm, hpN.mn⟩
      have hQc : Q.cells.toArray = #[.slice Ad Ld cd, .int .i64 0, sV p.main, .slice (some ⟨K1, 0, none⟩) 1 1] := by rw [← hQ, ← hvd]; rfl
      have hQd : min (d + i) 65 ≤ dpP Q := by
        rw [← hQ, ← hdu]
        show dpE 65 u ≤ max (max (dpE 65 u) 0) _
        omega
      have hgd : 64 < d + i → Hid (∀ w, Nb W8 w → Calls Tryd.prog 9 #[.agg #[.slice Ad Ld cd, .int .i64 0, sV p.main, .slice (some ⟨K1, 0, none⟩) 1 1]] w fun r w' => r = .returned (.bool false) ∧ Nb w w') := fun h => Lib.hid (fun w hw => by rw [← hQc]; exact good_deep W8 Q hQh (by omega) w hw)
      have k5 := n8.block k2
      clear hxP hQh hQc hQd hpN hQ k1 k2 k3 s7
      obtain ⟨X, hX⟩ : ∃ X, min (d + i) 65 = X := ⟨_, rfl⟩
      rw [hX] at hdep
      replace hX := Lib.hid hX
      have hwr : wrap64 ((d : Int) + (i : Int)) = ((d + i : Nat) : Int) := by unfold wrap64; omega
      obtain ⟨Y, hY⟩ : ∃ Y, d + i = Y := ⟨_, rfl⟩
      rw [hY] at hwr hgd
      replace hY := Lib.hid hY
      by_cases hle : Y ≤ 64
      · have hle2 : (Y : Int) ≤ 64 := by omega
        have hXY : X = Y := by have := hX.out; have := hY.out; omega
        subst hXY
        have hq : wrap64 ((d : Int) + (i : Int)) ≤ 64 := by rw [hwr]; exact hle2
        have hr : (X : Int) = min (wrap64 ((d : Int) + (i : Int))) 65 := by rw [hwr]; omega
        clear hX hY hgd k5 hwr hle2
        clear hdu hd hd65 hk hkv hi2 hlt2 hle hM0 hM1 hlen0 hcx hcu hvu hvd hv0 hv1 hu8 n7 n8 e7 hbox hhas hnW hx6 sE sE6 nW6 hlight hlg
        go_wp2_with (first
          | (refine wpList_load_row rfl 25 (.tmp 9) rfl _ rfl 25 _ (0, 0) _ k4 Tryd.underlying25 rfl (show (Tryd.prog.info? 25).map (·.size) = some 4 by kernel_rfl) ?_)
          | (go_at_call 8; refine (hdep.out).mono ?_; rintro r w9 ⟨rfl, g9⟩)
          | (go_at_call 6; refine (hlives.out _ (hnW8.trans g9)).mono ?_; rintro r w10 ⟨rfl, g10⟩))
        go_ret
        exact ⟨rfl, hnW8.trans (g9.trans g10)⟩
      · have hle2 : ¬ (Y : Int) ≤ 64 := by omega
        have hX65 : X = 65 := by have := hX.out; have := hY.out; omega
        have hgd2 := hgd (by omega)
        obtain ⟨N4, hN4⟩ : ∃ N, K1 + 1 + 1 + 1 = N := ⟨_, rfl⟩
        obtain ⟨N3, hN3⟩ : ∃ N, K1 + 1 + 1 = N := ⟨_, rfl⟩
        obtain ⟨N2, hN2⟩ : ∃ N, K1 + 1 = N := ⟨_, rfl⟩
        rw [hN4, hN3] at k4
        rw [hN3] at hdep
        rw [hN2] at k5
        rw [hN4, hN3, hN2]
        clear hN2 hN3 hN4
        have hq : decide (wrap64 ((d : Int) + (i : Int)) ≤ 64) = false := by rw [hwr]; exact decide_eq_false hle2
        have hr : ((X : Int) == min (wrap64 ((d : Int) + (i : Int))) 65) = true := by rw [beq_iff_eq, hwr]; omega
        clear hX hY hgd hwr hle2 hX65
        clear hdu hd hd65 hk hkv hi2 hlt2 hle hM0 hM1 hlen0 hcx hcu hvu hvd hv0 hv1 hu8 n7 n8 e7 hbox hhas hnW hx6 sE sE6 nW6 hlight hlg
        go_wp2_with (first
          | (refine wpList_load_row rfl 25 (.tmp 9) rfl _ rfl 25 _ (0, 0) _ k4 Tryd.underlying25 rfl (show (Tryd.prog.info? 25).map (·.size) = some 4 by kernel_rfl) ?_)
          | (go_at_call 8; refine (hdep.out).mono ?_; rintro r w9 ⟨rfl, g9⟩; have k6 := g9.block k5; have y0 : w9.cell? ⟨N2, 0, none⟩ = some (.slice Ad Ld cd) := cell_of_row _ _ 0 _ _ _ k6; have y1 : w9.cell? ⟨N2, 1, none⟩ = some (.int .i64 0) := cell_of_row _ _ 1 _ _ _ k6; have y2 : w9.cell? ⟨N2, 2, none⟩ = some (sV p.main) := cell_of_row _ _ 2 _ _ _ k6; have y3 : w9.cell? ⟨N2, 3, none⟩ = some (.slice (some ⟨K1, 0, none⟩) 1 1) := cell_of_row _ _ 3 _ _ _ k6; clear k6)
          | (go_at_call 9; refine (hgd2.out _ g9).mono ?_; rintro r w11 ⟨rfl, g11⟩)
          | (go_at_call 6; refine (hlives.out _ (hnW8.trans (g9.trans g11))).mono ?_; rintro r w10 ⟨rfl, g10⟩))
        go_ret
        exact ⟨rfl, hnW8.trans (g9.trans (g11.trans g10))⟩
theorem walk (p : Pg) (n : Int) (hn : -9223372036854775808 ≤ n ∧ n < 9223372036854775808) (W : World) (hT : Tw W) (hp : p.Has W) :
    Calls Tryd.prog 3 #[.agg p.cells.toArray, .int .i64 n] W fun r w' => r = .returned (.bool true) ∧ Nb W w' := by
  cases hlg : p.light with
  | false => exact walk0 p n W hT hp (.inl hlg)
  | true =>
    cases ha : p.args with
    | nil => exact walk0 p n W hT hp (.inr ha)
    | cons x0 rest => exact walk1 p n W hT hp hlg x0 rest ha
/-! The row's step. -/
set_option maxRecDepth 100000 in
set_option maxHeartbeats 1000000 in
theorem lifted (os : Os) (started : os.Started) (H : Type) (enc : TypeId × Value → H) :
    ReturnsInHanded {} Tryd.checked os 3 .any (fun w args => (Rows.treeDeepSpec.pre enc Tryd.prog Tryd.f3 [] false w args ∧ laidMetH Tryd.prog laidG w) ∧ sizedMet enc Tryd.prog Tryd.f3 (OpenSpec.ofChange Rows.treeDeepSpec) false w args)
      (Rows.treeDeepSpec.post enc Tryd.prog Tryd.f3 false true false false) := by
  refine returnsInHanded_of_change_and (C := Tryd.checked) (X := fun w _ => laidMetH Tryd.prog laidG w) (fun _ _ _ hh h => h.of_heap hh) own started (by kernel_rfl) Tryd.func3
    (ChangeSpec.witness_shaped (enc := enc) (C := Tryd.checked) (os := os) (X := fun w _ => laidMetH Tryd.prog laidG w) false (World.doorLaid Tryd.prog 400 os) #[.agg #[.slice none 0 0, .int .i64 0, .string ⟨#[]⟩, .slice none 0 0], .int .i64 0] 8 rfl (World.shaped_of_RefB (by kernel_rfl) (by kernel_rfl)) (by kernel_rfl) (by kernel_rfl) (by kernel_rfl) (door_metG os _)) ?_
  intro W base args ds gs before hval0 hW _ _ hL _
  have hval : ∀ (j : Nat) t v, Tryd.f3.params[j]? = some t → args[j]? = some v → Value.okWide Tryd.prog W .any base t v := hval0
  have hW' := hW
  obtain ⟨p, q, hA0, hV, rfl, hfz, hnd⟩ := hW
  have hA1 : DataW.TrodAll enc Tryd.prog W 0 (fun _ => true) true Tryd.f3.params.toList args.toList ds p := hA0
  have hA := hA1
  rw [Tryd.params3] at hA hval
  obtain ⟨v0, vs0, d0, ds0, p0, q0, hargs0, rfl, -, h0, r0⟩ := trodAll_cons hA
  obtain ⟨v1, vs1, d1, ds1, p1, q1, hargs1, rfl, -, h1, r1⟩ := trodAll_cons r0
  obtain ⟨rfl, rfl, -⟩ := trodAll_nil r1
  obtain rfl : args = #[v0, v1] := by cases args; simp_all
  obtain ⟨rfl, rfl⟩ := trodVars_none hV
  obtain ⟨q0, rfl, hq0⟩ := open_program (hval 0 25 v0 rfl rfl) h0
  obtain ⟨n1, rfl, -, -, w1⟩ := open_int Tryd.underlying3 (hval 1 3 v1 rfl rfl) h1
  clear hval0
  simp only [List.append_nil] at hW'
  refine (walk q0 n1 (i64_of w1) W (tw_of_laid hL) hq0).mono fun e W' ⟨he, hg⟩ => ?_
  subst he
  exact ⟨_, rfl, post_of_nb (pa := p) (pv := []) hW' (fun _ _ _ => (trodAll_cons_mk (shut_bool Tryd.underlying4 _) trodAll_mk0))
    (fun sp hsp => args_stay (by kernel_rfl) hg hA1 (fun t ht => by
      have h0 : (Tryd.f3.params.toList.all fun t => Tryd.prog.readableRec t && decide (t < Tryd.prog.types.size)) = true := by kernel_rfl
      have h1 := List.all_eq_true.1 h0 t ht
      rw [Bool.and_eq_true, decide_eq_true_eq] at h1
      exact h1) (fun x hx => hW'.lt x hx) hsp)
    (fun _ _ => rfl) (by simp) hg (ok_one (by kernel_rfl) rfl (okWide_bool_mk Tryd.underlying4 _))⟩
theorem over : Rows.TreeDeepSaid :=
  OpenClaim.holds_of_wide 3 Tryd.f3 rfl rfl rfl rfl rfl rfl rfl ⟨rfl, rfl, rfl, rfl, rfl⟩ rfl rfl rfl rfl rfl (by kernel_rfl) Tryd.func3 (by kernel_rfl)
    (of_decide_eq_true (by kernel_rfl)) (by unfold Func.isWrapper; first | (rw [if_pos (by decide +kernel)]; kernel_rfl) | (rw [if_neg (by decide +kernel)]; exact ⟨rfl, rfl⟩))
    (fun os started H enc _ => lifted os started H enc)
/-- The statement: the tied card. -/
theorem proved : Rows.TreeDeepCardSaid :=
  Claim7.holds_tied_plain_at .later [] [.data, .data, .data] true (true, "a3c8180b1deebefba2fb9a1091b99bc7b8fc994d78ff8110e8c62d8b9ee14eb3") false
    over (fun _ h => by cases h) (by kernel_rfl) (fun _ h => by cases h) treeDeep_row_tie rfl ⟨rfl, rfl⟩ (by kernel_rfl) rfl
    (fun f fn hf hfn => by
      obtain rfl : f = 3 := Option.some.inj ((show Tryd.prog.funcNamed "postbag/postbaglaw12.TreeDeep" = some 3 by kernel_rfl).symm.trans hf) |>.symm
      obtain rfl : fn = Tryd.f3 := (Option.some.inj (Tryd.func3.symm.trans hfn)).symm
      exact ⟨by kernel_rfl, fun j t ht => by
        rw [Tryd.params3] at ht
        have hm : t ∈ [25, 3] := by simpa using Array.mem_of_getElem? ht
        have hall : ([25, 3].all fun u => !Tryd.prog.wantsStandIn u) = true := by kernel_rfl
        exact (show Tryd.prog.wantsStandIn t = false by simpa using List.all_eq_true.1 hall t hm)⟩)
    (by kernel_rfl)
#print axioms proved
end Go.Proofs.YtjibblpfhnigjaaDoor.treeDeep
