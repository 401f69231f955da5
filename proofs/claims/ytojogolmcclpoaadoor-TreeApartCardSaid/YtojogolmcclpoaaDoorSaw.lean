/-
  Proved here: of the code: laying lists of expressions, patterns, bodies. Conditions: stated.
-/
import Derived.Test.YtojogolmcclpoaaDoorSav
import Derived.Test.YtojogolmcclpoaaDoorSab
namespace Go.Proofs.YtojogolmcclpoaaDoor
open Go.RowKit Go.Shelf
set_option linter.unusedVariables false
set_option linter.unusedSimpArgs false
set_option maxRecDepth 100000
set_option maxHeartbeats 4000000
theorem listE_any (W0 : World) (l : List Ex) (hok : ∀ x ∈ l, x.cells.toArray.all (·.oneCell') = true)
    (one : ∀ x ∈ l, ∀ t W, Nb W0 W → Wr W0 t W → (t ++ txE x).length ≤ 140737488355328 → Calls Tryd.prog 69 #[.pointer (some ⟨W0.heap.size, 0, none⟩), .agg x.cells.toArray] W (Lays W0 t (txE x) W))
    (v : Value) (hrow : RowS W0 5 v (l.map Ex.cells)) (t : Bs) (W : World) (hW : Nb W0 W) (hT : Wr W0 t W) (hlen : (t ++ jnT (txEs l)).length ≤ 140737488355328) :
    Calls Tryd.prog 68 #[.pointer (some ⟨W0.heap.size, 0, none⟩), v, .func (.func 69) #[.pointer (some ⟨W0.heap.size, 0, none⟩)] #[]] W (Lays W0 t (jnT (txEs l)) W) := by
  obtain ⟨A, cap, rfl, hcap, hlenr, hz⟩ := hrow.head
  have hX := Lib.hid hrow
  rw [List.length_map] at hcap hlenr hX ⊢
  have hmap := Lib.hid (txEs_map l)
  obtain ⟨M, hM⟩ : ∃ M, l.length = M := ⟨_, rfl⟩
  have hMh := Lib.hid hM
  rw [hM] at hcap hlenr hX ⊢
  clear hM hrow
  obtain ⟨L, hL⟩ : ∃ L, txEs l = L := ⟨_, rfl⟩
  have hLh := Lib.hid hL
  rw [hL] at hmap hlen ⊢
  clear hL
  have hokh := Lib.hid hok
  have hone := Lib.hid one
  have hlenh := Lib.hid hlen
  clear one hok hlen
  go_enter Tryd.func68, Tryd.ntmps68
  go_wp2_with fail
  go_loopw [10] (fun si wr => ∃ i : Nat, i ≤ M ∧ si = .int .i64 i ∧ Wr W0 (t ++ jnT (L.take i)) wr ∧ Pk W0 W wr) (fun si _ => M - (intOf si).toNat)
  case atStart => exact ⟨0, Nat.zero_le _, rfl, by simpa [jnT] using hT, Pk.refl _ _⟩
  case round =>
    obtain ⟨i, hi2, rfl, hj, hp⟩ := hrel
    by_cases hlt2 : i < M
    · have hlt3 : (i : Int) < (M : Int) := by omega
      obtain ⟨x, hx⟩ : ∃ x, l[i]? = some x := ⟨_, List.getElem?_eq_getElem (by rw [hMh.out]; exact hlt2)⟩
      obtain ⟨b, o, rfl, hxc⟩ := hX.out.at_ (i := i) (r := x.cells) (by rw [List.getElem?_map, hx]; rfl)
      have hnb : Nb W0 wr := Pk.nb hW hp
      have y0 := hnb.cell (hxc 0 _ rfl)
      have y1 := hnb.cell (hxc 1 _ rfl)
      have y2 := hnb.cell (hxc 2 _ rfl)
      have y3 := hnb.cell (hxc 3 _ rfl)
      have y4 := hnb.cell (hxc 4 _ rfl)
      rw [Nat.add_zero] at y0
      have hLi : L[i]? = some (txE x) := by rw [hmap.out, List.getElem?_map, hx]; rfl
      have htk := jnT_take L i _ hLi
      have hle : (t ++ (jnT (L.take i) ++ sepT i (txE x))).length ≤ 140737488355328 := by
        have h1 := hlenh.out
        have h2 := jnT_le L (i + 1)
        rw [htk] at h2
        rw [List.length_append] at h1 ⊢
        omega
      have hone1 := Lib.hid (hone.out x (List.mem_of_getElem? hx))
      have hnbh := Lib.hid hnb
      have hlt4 : W0.heap.size < wr.heap.size := hj.lt
      have hox := Lib.hid (hokh.out x (List.mem_of_getElem? hx))
      have hjh := Lib.hid hj
      clear hx hxc hj hLi
      by_cases h0 : i = 0
      · have h5 : ¬ (0 : Int) < (i : Int) := by omega
        rw [show sepT i (txE x) = txE x from by rw [sepT, if_pos h0]; rfl] at htk hle
        have htk := Lib.hid htk
        have hle := Lib.hid hle
        obtain rfl := h0
        simp only [Nat.zero_mul, Nat.add_zero] at y0 y1 y2 y3 y4
        go_wp2_with (first
          | (refine wpList_store_new' rfl 36 (.tmp 7) (.tmp 14) rfl _ x.cells.toArray _ rfl rfl (show (Tryd.prog.info? 36).map (·.size) = some 5 by kernel_rfl) rfl hox.out ?_; obtain ⟨W5, hW5⟩ : ∃ W5, wr.alloc (.cells x.cells.toArray 36) = W5 := ⟨_, rfl⟩; have b5 : W5.heap[wr.heap.size]? = some (.cells x.cells.toArray 36 (0, 0)) := (by rw [← hW5]; exact new_blk _ _ rfl); have n5 : Nb wr W5 := (by rw [← hW5]; exact alloc_nb _ _); rw [hW5]; clear hW5)
          | (refine wpList_load_row rfl 36 (.tmp 7) rfl wr.heap.size rfl 36 x.cells.toArray (0, 0) _ b5 Tryd.underlying36 rfl (show (Tryd.prog.info? 36).map (·.size) = some 5 by kernel_rfl) ?_)
          | (go_at_call 69; refine (hone1.out (t ++ jnT (L.take 0)) _ (hnbh.out.trans n5) (hjh.out.nb n5) (by rw [List.append_assoc]; exact hle.out)).mono ?_; rintro r w6 ⟨rfl, hj6, hp6⟩))
        exact ⟨⟨0 + 1, by omega, by simp, by rw [htk.out, ← List.append_assoc]; exact hj6, hp.trans ((Pk.of_nb (Nat.le_of_lt hlt4) n5).trans hp6)⟩, by simp [intOf] <;> omega⟩
      · have h5 : (0 : Int) < (i : Int) := by omega
        rw [show sepT i (txE x) = [44, 32] ++ txE x from by rw [sepT, if_neg h0]] at htk hle
        have htk := Lib.hid htk
        have hle := Lib.hid hle
        have hput := Lib.hid (fun W6 (h6 : Wr W0 (t ++ jnT (L.take i)) W6) (k : Nat) (hk : W6.heap[k]? = some (.cells #[.string ⟨#[44, 32]⟩] 9 (0, 0))) (hne : k ≠ W0.heap.size) => put_any W0 (t ++ jnT (L.take i)) [[44, 32]] W6 h6 k hk hne 1 (Nat.le_refl _) (by decide) (by have := hle.out; simp only [List.flatten_cons, List.flatten_nil, List.append_nil, List.length_append] at this ⊢; omega))
        go_wp2_with (first
          | (refine wpList_store_new' rfl 36 (.tmp 7) (.tmp 14) rfl _ x.cells.toArray _ rfl rfl (show (Tryd.prog.info? 36).map (·.size) = some 5 by kernel_rfl) rfl hox.out ?_; obtain ⟨W5, hW5⟩ : ∃ W5, wr.alloc (.cells x.cells.toArray 36) = W5 := ⟨_, rfl⟩; have b5 : W5.heap[wr.heap.size]? = some (.cells x.cells.toArray 36 (0, 0)) := (by rw [← hW5]; exact new_blk _ _ rfl); have n5 : Nb wr W5 := (by rw [← hW5]; exact alloc_nb _ _); have z5 := n5.size; rw [hW5]; clear hW5)
          | (refine wpList_load_row rfl 36 (.tmp 7) rfl wr.heap.size rfl 36 x.cells.toArray (0, 0) _ b7 Tryd.underlying36 rfl (show (Tryd.prog.info? 36).map (·.size) = some 5 by kernel_rfl) ?_)
          | (go_at_call 54; refine (hput.out _ (hjh.out.nb (n5.trans (alloc_nb _ _))) _ (new_blk _ _ rfl) (by omega)).mono ?_; rintro r w7 ⟨rfl, hj7, hp7⟩; have b7 := hp7.block (old_blk b5 _) (by omega) (by decide); have hnb7 := Pk.nb (hnbh.out.trans (n5.trans (alloc_nb _ _))) hp7)
          | (go_at_call 69; refine (hone1.out _ _ hnb7 hj7 (by have := hle.out; simp only [List.flatten_cons, List.flatten_nil, List.append_nil, List.length_append] at this ⊢; omega)).mono ?_; rintro r w6 ⟨rfl, hj6, hp6⟩))
        refine ⟨⟨i + 1, by omega, by simp, ?_, hp.trans ((Pk.of_nb (Nat.le_of_lt hlt4) (n5.trans (alloc_nb _ _))).trans (hp7.trans hp6))⟩, by simp [intOf] <;> omega⟩
        rw [htk.out]
        simpa only [List.flatten_cons, List.flatten_nil, List.append_nil, List.append_assoc] using hj6
    · obtain rfl : i = M := by omega
      have hall : jnT (L.take i) = jnT L := by rw [List.take_of_length_le (by rw [hmap.out, List.length_map, hMh.out]; exact Nat.le_refl _)]
      rw [hall] at hj
      go_wp2_with fail
      go_end0
      exact ⟨rfl, hj, hp⟩
theorem listT_any (W0 : World) (l : List Ex) (hok : ∀ x ∈ l, x.cells.toArray.all (·.oneCell') = true)
    (one : ∀ x ∈ l, ∀ t W, Nb W0 W → Wr W0 t W → (t ++ txT x).length ≤ 140737488355328 → Calls Tryd.prog 83 #[.pointer (some ⟨W0.heap.size, 0, none⟩), .agg x.cells.toArray] W (Lays W0 t (txT x) W))
    (v : Value) (hrow : RowS W0 5 v (l.map Ex.cells)) (t : Bs) (W : World) (hW : Nb W0 W) (hT : Wr W0 t W) (hlen : (t ++ jnT (txTs l)).length ≤ 140737488355328) :
    Calls Tryd.prog 88 #[.pointer (some ⟨W0.heap.size, 0, none⟩), v, .func (.func 83) #[.pointer (some ⟨W0.heap.size, 0, none⟩)] #[]] W (Lays W0 t (jnT (txTs l)) W) := by
  obtain ⟨A, cap, rfl, hcap, hlenr, hz⟩ := hrow.head
  have hX := Lib.hid hrow
  rw [List.length_map] at hcap hlenr hX ⊢
  have hmap := Lib.hid (txTs_map l)
  obtain ⟨M, hM⟩ : ∃ M, l.length = M := ⟨_, rfl⟩
  have hMh := Lib.hid hM
  rw [hM] at hcap hlenr hX ⊢
  clear hM hrow
  obtain ⟨L, hL⟩ : ∃ L, txTs l = L := ⟨_, rfl⟩
  have hLh := Lib.hid hL
  rw [hL] at hmap hlen ⊢
  clear hL
  have hokh := Lib.hid hok
  have hone := Lib.hid one
  have hlenh := Lib.hid hlen
  clear one hok hlen
  go_enter Tryd.func88, Tryd.ntmps88
  go_wp2_with fail
  go_loopw [10] (fun si wr => ∃ i : Nat, i ≤ M ∧ si = .int .i64 i ∧ Wr W0 (t ++ jnT (L.take i)) wr ∧ Pk W0 W wr) (fun si _ => M - (intOf si).toNat)
  case atStart => exact ⟨0, Nat.zero_le _, rfl, by simpa [jnT] using hT, Pk.refl _ _⟩
  case round =>
    obtain ⟨i, hi2, rfl, hj, hp⟩ := hrel
    by_cases hlt2 : i < M
    · have hlt3 : (i : Int) < (M : Int) := by omega
      obtain ⟨x, hx⟩ : ∃ x, l[i]? = some x := ⟨_, List.getElem?_eq_getElem (by rw [hMh.out]; exact hlt2)⟩
      obtain ⟨b, o, rfl, hxc⟩ := hX.out.at_ (i := i) (r := x.cells) (by rw [List.getElem?_map, hx]; rfl)
      have hnb : Nb W0 wr := Pk.nb hW hp
      have y0 := hnb.cell (hxc 0 _ rfl)
      have y1 := hnb.cell (hxc 1 _ rfl)
      have y2 := hnb.cell (hxc 2 _ rfl)
      have y3 := hnb.cell (hxc 3 _ rfl)
      have y4 := hnb.cell (hxc 4 _ rfl)
      rw [Nat.add_zero] at y0
      have hLi : L[i]? = some (txT x) := by rw [hmap.out, List.getElem?_map, hx]; rfl
      have htk := jnT_take L i _ hLi
      have hle : (t ++ (jnT (L.take i) ++ sepT i (txT x))).length ≤ 140737488355328 := by
        have h1 := hlenh.out
        have h2 := jnT_le L (i + 1)
        rw [htk] at h2
        rw [List.length_append] at h1 ⊢
        omega
      have hone1 := Lib.hid (hone.out x (List.mem_of_getElem? hx))
      have hnbh := Lib.hid hnb
      have hlt4 : W0.heap.size < wr.heap.size := hj.lt
      have hox := Lib.hid (hokh.out x (List.mem_of_getElem? hx))
      have hjh := Lib.hid hj
      clear hx hxc hj hLi
      by_cases h0 : i = 0
      · have h5 : ¬ (0 : Int) < (i : Int) := by omega
        rw [show sepT i (txT x) = txT x from by rw [sepT, if_pos h0]; rfl] at htk hle
        have htk := Lib.hid htk
        have hle := Lib.hid hle
        obtain rfl := h0
        simp only [Nat.zero_mul, Nat.add_zero] at y0 y1 y2 y3 y4
        go_wp2_with (first
          | (refine wpList_store_new' rfl 71 (.tmp 7) (.tmp 14) rfl _ x.cells.toArray _ rfl rfl (show (Tryd.prog.info? 71).map (·.size) = some 5 by kernel_rfl) rfl hox.out ?_; obtain ⟨W5, hW5⟩ : ∃ W5, wr.alloc (.cells x.cells.toArray 71) = W5 := ⟨_, rfl⟩; have b5 : W5.heap[wr.heap.size]? = some (.cells x.cells.toArray 71 (0, 0)) := (by rw [← hW5]; exact new_blk _ _ rfl); have n5 : Nb wr W5 := (by rw [← hW5]; exact alloc_nb _ _); rw [hW5]; clear hW5)
          | (refine wpList_load_row rfl 71 (.tmp 7) rfl wr.heap.size rfl 71 x.cells.toArray (0, 0) _ b5 Tryd.underlying71 rfl (show (Tryd.prog.info? 71).map (·.size) = some 5 by kernel_rfl) ?_)
          | (go_at_call 83; refine (hone1.out (t ++ jnT (L.take 0)) _ (hnbh.out.trans n5) (hjh.out.nb n5) (by rw [List.append_assoc]; exact hle.out)).mono ?_; rintro r w6 ⟨rfl, hj6, hp6⟩))
        exact ⟨⟨0 + 1, by omega, by simp, by rw [htk.out, ← List.append_assoc]; exact hj6, hp.trans ((Pk.of_nb (Nat.le_of_lt hlt4) n5).trans hp6)⟩, by simp [intOf] <;> omega⟩
      · have h5 : (0 : Int) < (i : Int) := by omega
        rw [show sepT i (txT x) = [44, 32] ++ txT x from by rw [sepT, if_neg h0]] at htk hle
        have htk := Lib.hid htk
        have hle := Lib.hid hle
        have hput := Lib.hid (fun W6 (h6 : Wr W0 (t ++ jnT (L.take i)) W6) (k : Nat) (hk : W6.heap[k]? = some (.cells #[.string ⟨#[44, 32]⟩] 9 (0, 0))) (hne : k ≠ W0.heap.size) => put_any W0 (t ++ jnT (L.take i)) [[44, 32]] W6 h6 k hk hne 1 (Nat.le_refl _) (by decide) (by have := hle.out; simp only [List.flatten_cons, List.flatten_nil, List.append_nil, List.length_append] at this ⊢; omega))
        go_wp2_with (first
          | (refine wpList_store_new' rfl 71 (.tmp 7) (.tmp 14) rfl _ x.cells.toArray _ rfl rfl (show (Tryd.prog.info? 71).map (·.size) = some 5 by kernel_rfl) rfl hox.out ?_; obtain ⟨W5, hW5⟩ : ∃ W5, wr.alloc (.cells x.cells.toArray 71) = W5 := ⟨_, rfl⟩; have b5 : W5.heap[wr.heap.size]? = some (.cells x.cells.toArray 71 (0, 0)) := (by rw [← hW5]; exact new_blk _ _ rfl); have n5 : Nb wr W5 := (by rw [← hW5]; exact alloc_nb _ _); have z5 := n5.size; rw [hW5]; clear hW5)
          | (refine wpList_load_row rfl 71 (.tmp 7) rfl wr.heap.size rfl 71 x.cells.toArray (0, 0) _ b7 Tryd.underlying71 rfl (show (Tryd.prog.info? 71).map (·.size) = some 5 by kernel_rfl) ?_)
          | (go_at_call 54; refine (hput.out _ (hjh.out.nb (n5.trans (alloc_nb _ _))) _ (new_blk _ _ rfl) (by omega)).mono ?_; rintro r w7 ⟨rfl, hj7, hp7⟩; have b7 := hp7.block (old_blk b5 _) (by omega) (by decide); have hnb7 := Pk.nb (hnbh.out.trans (n5.trans (alloc_nb _ _))) hp7)
          | (go_at_call 83; refine (hone1.out _ _ hnb7 hj7 (by have := hle.out; simp only [List.flatten_cons, List.flatten_nil, List.append_nil, List.length_append] at this ⊢; omega)).mono ?_; rintro r w6 ⟨rfl, hj6, hp6⟩))
        refine ⟨⟨i + 1, by omega, by simp, ?_, hp.trans ((Pk.of_nb (Nat.le_of_lt hlt4) (n5.trans (alloc_nb _ _))).trans (hp7.trans hp6))⟩, by simp [intOf] <;> omega⟩
        rw [htk.out]
        simpa only [List.flatten_cons, List.flatten_nil, List.append_nil, List.append_assoc] using hj6
    · obtain rfl : i = M := by omega
      have hall : jnT (L.take i) = jnT L := by rw [List.take_of_length_le (by rw [hmap.out, List.length_map, hMh.out]; exact Nat.le_refl _)]
      rw [hall] at hj
      go_wp2_with fail
      go_end0
      exact ⟨rfl, hj, hp⟩
theorem listB_any (W0 : World) (l : List Bd) (hok : ∀ x ∈ l, x.cells.toArray.all (·.oneCell') = true)
    (one : ∀ x ∈ l, ∀ t W, Nb W0 W → Wr W0 t W → (t ++ txB x).length ≤ 140737488355328 → Calls Tryd.prog 66 #[.pointer (some ⟨W0.heap.size, 0, none⟩), .agg x.cells.toArray] W (Lays W0 t (txB x) W))
    (v : Value) (hrow : RowS W0 9 v (l.map Bd.cells)) (t : Bs) (W : World) (hW : Nb W0 W) (hT : Wr W0 t W) (hlen : (t ++ jnT (txBs l)).length ≤ 140737488355328) :
    Calls Tryd.prog 81 #[.pointer (some ⟨W0.heap.size, 0, none⟩), v, .func (.func 66) #[.pointer (some ⟨W0.heap.size, 0, none⟩)] #[]] W (Lays W0 t (jnT (txBs l)) W) := by
  obtain ⟨A, cap, rfl, hcap, hlenr, hz⟩ := hrow.head
  have hX := Lib.hid hrow
  rw [List.length_map] at hcap hlenr hX ⊢
  have hmap := Lib.hid (txBs_map l)
  obtain ⟨M, hM⟩ : ∃ M, l.length = M := ⟨_, rfl⟩
  have hMh := Lib.hid hM
  rw [hM] at hcap hlenr hX ⊢
  clear hM hrow
  obtain ⟨L, hL⟩ : ∃ L, txBs l = L := ⟨_, rfl⟩
  have hLh := Lib.hid hL
  rw [hL] at hmap hlen ⊢
  clear hL
  have hokh := Lib.hid hok
  have hone := Lib.hid one
  have hlenh := Lib.hid hlen
  clear one hok hlen
  go_enter Tryd.func81, Tryd.ntmps81
  go_wp2_with fail
  go_loopw [10] (fun si wr => ∃ i : Nat, i ≤ M ∧ si = .int .i64 i ∧ Wr W0 (t ++ jnT (L.take i)) wr ∧ Pk W0 W wr) (fun si _ => M - (intOf si).toNat)
  case atStart => exact ⟨0, Nat.zero_le _, rfl, by simpa [jnT] using hT, Pk.refl _ _⟩
  case round =>
    obtain ⟨i, hi2, rfl, hj, hp⟩ := hrel
    by_cases hlt2 : i < M
    · have hlt3 : (i : Int) < (M : Int) := by omega
      obtain ⟨x, hx⟩ : ∃ x, l[i]? = some x := ⟨_, List.getElem?_eq_getElem (by rw [hMh.out]; exact hlt2)⟩
      obtain ⟨b, o, rfl, hxc⟩ := hX.out.at_ (i := i) (r := x.cells) (by rw [List.getElem?_map, hx]; rfl)
      have hnb : Nb W0 wr := Pk.nb hW hp
      have y0 := hnb.cell (hxc 0 _ rfl)
      have y1 := hnb.cell (hxc 1 _ rfl)
      have y2 := hnb.cell (hxc 2 _ rfl)
      have y3 := hnb.cell (hxc 3 _ rfl)
      have y4 := hnb.cell (hxc 4 _ rfl)
      have y5 := hnb.cell (hxc 5 _ rfl)
      have y6 := hnb.cell (hxc 6 _ rfl)
      have y7 := hnb.cell (hxc 7 _ rfl)
      have y8 := hnb.cell (hxc 8 _ rfl)
      rw [Nat.add_zero] at y0
      have hLi : L[i]? = some (txB x) := by rw [hmap.out, List.getElem?_map, hx]; rfl
      have htk := jnT_take L i _ hLi
      have hle : (t ++ (jnT (L.take i) ++ sepT i (txB x))).length ≤ 140737488355328 := by
        have h1 := hlenh.out
        have h2 := jnT_le L (i + 1)
        rw [htk] at h2
        rw [List.length_append] at h1 ⊢
        omega
      have hone1 := Lib.hid (hone.out x (List.mem_of_getElem? hx))
      have hnbh := Lib.hid hnb
      have hlt4 : W0.heap.size < wr.heap.size := hj.lt
      have hox := Lib.hid (hokh.out x (List.mem_of_getElem? hx))
      have hjh := Lib.hid hj
      clear hx hxc hj hLi
      by_cases h0 : i = 0
      · have h5 : ¬ (0 : Int) < (i : Int) := by omega
        rw [show sepT i (txB x) = txB x from by rw [sepT, if_pos h0]; rfl] at htk hle
        have htk := Lib.hid htk
        have hle := Lib.hid hle
        obtain rfl := h0
        simp only [Nat.zero_mul, Nat.add_zero] at y0 y1 y2 y3 y4 y5 y6 y7 y8
        go_wp2_with (first
          | (refine wpList_store_new' rfl 44 (.tmp 7) (.tmp 14) rfl _ x.cells.toArray _ rfl rfl (show (Tryd.prog.info? 44).map (·.size) = some 9 by kernel_rfl) rfl hox.out ?_; obtain ⟨W5, hW5⟩ : ∃ W5, wr.alloc (.cells x.cells.toArray 44) = W5 := ⟨_, rfl⟩; have b5 : W5.heap[wr.heap.size]? = some (.cells x.cells.toArray 44 (0, 0)) := (by rw [← hW5]; exact new_blk _ _ rfl); have n5 : Nb wr W5 := (by rw [← hW5]; exact alloc_nb _ _); rw [hW5]; clear hW5)
          | (refine wpList_load_row rfl 44 (.tmp 7) rfl wr.heap.size rfl 44 x.cells.toArray (0, 0) _ b5 Tryd.underlying44 rfl (show (Tryd.prog.info? 44).map (·.size) = some 9 by kernel_rfl) ?_)
          | (go_at_call 66; refine (hone1.out (t ++ jnT (L.take 0)) _ (hnbh.out.trans n5) (hjh.out.nb n5) (by rw [List.append_assoc]; exact hle.out)).mono ?_; rintro r w6 ⟨rfl, hj6, hp6⟩))
        exact ⟨⟨0 + 1, by omega, by simp, by rw [htk.out, ← List.append_assoc]; exact hj6, hp.trans ((Pk.of_nb (Nat.le_of_lt hlt4) n5).trans hp6)⟩, by simp [intOf] <;> omega⟩
      · have h5 : (0 : Int) < (i : Int) := by omega
        rw [show sepT i (txB x) = [44, 32] ++ txB x from by rw [sepT, if_neg h0]] at htk hle
        have htk := Lib.hid htk
        have hle := Lib.hid hle
        have hput := Lib.hid (fun W6 (h6 : Wr W0 (t ++ jnT (L.take i)) W6) (k : Nat) (hk : W6.heap[k]? = some (.cells #[.string ⟨#[44, 32]⟩] 9 (0, 0))) (hne : k ≠ W0.heap.size) => put_any W0 (t ++ jnT (L.take i)) [[44, 32]] W6 h6 k hk hne 1 (Nat.le_refl _) (by decide) (by have := hle.out; simp only [List.flatten_cons, List.flatten_nil, List.append_nil, List.length_append] at this ⊢; omega))
        go_wp2_with (first
          | (refine wpList_store_new' rfl 44 (.tmp 7) (.tmp 14) rfl _ x.cells.toArray _ rfl rfl (show (Tryd.prog.info? 44).map (·.size) = some 9 by kernel_rfl) rfl hox.out ?_; obtain ⟨W5, hW5⟩ : ∃ W5, wr.alloc (.cells x.cells.toArray 44) = W5 := ⟨_, rfl⟩; have b5 : W5.heap[wr.heap.size]? = some (.cells x.cells.toArray 44 (0, 0)) := (by rw [← hW5]; exact new_blk _ _ rfl); have n5 : Nb wr W5 := (by rw [← hW5]; exact alloc_nb _ _); have z5 := n5.size; rw [hW5]; clear hW5)
          | (refine wpList_load_row rfl 44 (.tmp 7) rfl wr.heap.size rfl 44 x.cells.toArray (0, 0) _ b7 Tryd.underlying44 rfl (show (Tryd.prog.info? 44).map (·.size) = some 9 by kernel_rfl) ?_)
          | (go_at_call 54; refine (hput.out _ (hjh.out.nb (n5.trans (alloc_nb _ _))) _ (new_blk _ _ rfl) (by omega)).mono ?_; rintro r w7 ⟨rfl, hj7, hp7⟩; have b7 := hp7.block (old_blk b5 _) (by omega) (by decide); have hnb7 := Pk.nb (hnbh.out.trans (n5.trans (alloc_nb _ _))) hp7)
          | (go_at_call 66; refine (hone1.out _ _ hnb7 hj7 (by have := hle.out; simp only [List.flatten_cons, List.flatten_nil, List.append_nil, List.length_append] at this ⊢; omega)).mono ?_; rintro r w6 ⟨rfl, hj6, hp6⟩))
        refine ⟨⟨i + 1, by omega, by simp, ?_, hp.trans ((Pk.of_nb (Nat.le_of_lt hlt4) (n5.trans (alloc_nb _ _))).trans (hp7.trans hp6))⟩, by simp [intOf] <;> omega⟩
        rw [htk.out]
        simpa only [List.flatten_cons, List.flatten_nil, List.append_nil, List.append_assoc] using hj6
    · obtain rfl : i = M := by omega
      have hall : jnT (L.take i) = jnT L := by rw [List.take_of_length_le (by rw [hmap.out, List.length_map, hMh.out]; exact Nat.le_refl _)]
      rw [hall] at hj
      go_wp2_with fail
      go_end0
      exact ⟨rfl, hj, hp⟩
end Go.Proofs.YtojogolmcclpoaaDoor
