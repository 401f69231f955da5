/-
  Proved here: each over arms. Conditions: the memory holds the list. ¦ each over bodies, definitions. Conditions: the memory holds the list.
-/
import Derived.Test.YtojogolmcclpoaaDoorSab
section
namespace Go.Proofs.YtojogolmcclpoaaDoor
open Go.RowKit
set_option linter.unusedVariables false
set_option linter.unusedSimpArgs false
set_option maxRecDepth 100000
set_option maxHeartbeats 4000000
theorem eachA_any (W0 : World) (hi N : Nat) (J Jx : List Pt → World → Prop) (hJ : ∀ pre W W', J pre W → Nb W W' → J pre W') (L : Nat) (hL : L ≤ 66) (c0 c1 c2 c3 : Nat) (S : World → Prop)
    (hS : ∀ A B, Kp W0.heap.size hi A B → S A → S B) (fl : Am → List Pt) (l : List Am) (hok : ∀ x ∈ l, x.cells.toArray.all (·.oneCell') = true)
    (one : ∀ x ∈ l, ∀ pre W, Nb W0 W → S W → J pre W → pre.length + (fl x).length ≤ N → Calls Tryd.prog 32 #[.agg x.cells.toArray, .int .i64 L, .pointer (some ⟨c0, 0, none⟩), .pointer (some ⟨c1, 0, none⟩), .pointer (some ⟨c2, 0, none⟩), .pointer (some ⟨c3, 0, none⟩)] W (Goes (J := J) (Jx := Jx) W0.heap.size hi pre (fl x) W))
    (v : Value) (hrow : RowS W0 15 v (l.map Am.cells)) (pre : List Pt) (W : World) (hW : Nb W0 W) (hSW : S W) (h0 : J pre W) (hN : pre.length + ((l.map fl).flatten).length ≤ N) :
    Calls Tryd.prog 38 #[v, .int .i64 L, .func (.func 32) #[] #[.pointer (some ⟨c0, 0, none⟩), .pointer (some ⟨c1, 0, none⟩), .pointer (some ⟨c2, 0, none⟩), .pointer (some ⟨c3, 0, none⟩)]] W (Goes (J := J) (Jx := Jx) W0.heap.size hi pre ((l.map fl).flatten) W) := by
  obtain ⟨A, cap, rfl, hcap, hlen, hz⟩ := hrow.head
  have hX := Lib.hid hrow
  rw [List.length_map] at hcap hlen hX ⊢
  obtain ⟨M, hM⟩ : ∃ M, l.length = M := ⟨_, rfl⟩
  have hMh := Lib.hid hM
  rw [hM] at hcap hlen hX ⊢
  clear hM hrow
  obtain ⟨F, hF⟩ : ∃ F, (l.map fl).flatten = F := ⟨_, rfl⟩
  have hFh := Lib.hid hF
  rw [hF] at hN ⊢
  clear hF
  have hJ := Lib.hid hJ
  have hokh := Lib.hid hok
  clear hok
  have hone := Lib.hid one
  have hS := Lib.hid hS
  have h0 := Lib.hid h0
  have hSW := Lib.hid hSW
  have hNh := Lib.hid hN
  clear one hN
  go_enter Tryd.func38, Tryd.ntmps38
  go_wp2_with fail
  go_loopw [11] (fun si wr => ∃ i : Nat, i ≤ M ∧ si = .int .i64 i ∧ J (pre ++ ((l.take i).map fl).flatten) wr ∧ Kp W0.heap.size hi W wr) (fun si _ => M - (intOf si).toNat)
  case atStart => exact ⟨0, Nat.zero_le _, rfl, by simpa using h0.out, Kp.refl _⟩
  case round =>
    obtain ⟨i, hi2, rfl, hj, hk⟩ := hrel
    have hj := Lib.hid hj
    by_cases hlt2 : i < M
    · have hlt3 : (i : Int) < (M : Int) := by omega
      obtain ⟨x, hx⟩ : ∃ x, l[i]? = some x := ⟨_, List.getElem?_eq_getElem (by rw [hMh.out]; exact hlt2)⟩
      obtain ⟨b, o, rfl, hxc⟩ := hX.out.at_ (i := i) (r := x.cells) (by rw [List.getElem?_map, hx]; rfl)
      have hnb : Nb W0 wr := hW.trans' hk
      have y0 := hnb.cell (hxc 0 _ rfl)
      have y1 := hnb.cell (hxc 1 _ rfl)
      have y2 := hnb.cell (hxc 2 _ rfl)
      have y3 := hnb.cell (hxc 3 _ rfl)
      have y4 := hnb.cell (hxc 4 _ rfl)
      have y5 := hnb.cell (hxc 5 _ rfl)
      have y6 := hnb.cell (hxc 6 _ rfl)
      have y7 := hnb.cell (hxc 7 _ rfl)
      have y8 := hnb.cell (hxc 8 _ rfl)
      have y9 := hnb.cell (hxc 9 _ rfl)
      have y10 := hnb.cell (hxc 10 _ rfl)
      have y11 := hnb.cell (hxc 11 _ rfl)
      have y12 := hnb.cell (hxc 12 _ rfl)
      have y13 := hnb.cell (hxc 13 _ rfl)
      have y14 := hnb.cell (hxc 14 _ rfl)
      rw [Nat.add_zero] at y0
      have htk : ((l.take (i + 1)).map fl).flatten = ((l.take i).map fl).flatten ++ fl x := by rw [List.take_add_one, hx]; simp
      have hle : ((l.take i).map fl).flatten.length + (fl x).length ≤ F.length := by
        rw [← List.length_append, ← htk, ← hFh.out]
        exact (flat_prefix fl l (i + 1)).length_le
      have hpf : ∀ q, q <+: fl x → ((l.take i).map fl).flatten ++ q <+: F := fun q hq => by
        rw [← hFh.out]
        refine List.IsPrefix.trans ?_ (flat_prefix fl l (i + 1))
        rw [htk]
        obtain ⟨t, ht⟩ := hq
        exact ⟨t, by rw [List.append_assoc, ht]⟩
      have hcall := Lib.hid (fun W5 (h5 : Nb wr W5) => hone.out x (List.mem_of_getElem? hx) (pre ++ ((l.take i).map fl).flatten) W5 (hnb.trans h5) (hS.out _ _ (hk.trans (Kp.of_nb hnb.size h5)) hSW.out) (hJ.out _ _ _ hj.out h5) (by rw [List.length_append]; have := hNh.out; omega))
      have htk := Lib.hid htk
      have hpf := Lib.hid hpf
      have hnb := Lib.hid hnb
      have hox := Lib.hid (hokh.out x (List.mem_of_getElem? hx))
      clear hx hxc hle
      go_wp2_with (first
        | (refine wpList_store_new' rfl 78 (.tmp 8) (.tmp 14) rfl _ x.cells.toArray _ rfl rfl (show (Tryd.prog.info? 78).map (·.size) = some 15 by kernel_rfl) rfl hox.out ?_; obtain ⟨W5, hW5⟩ : ∃ W5, wr.alloc (.cells x.cells.toArray 78) = W5 := ⟨_, rfl⟩; have b5 : W5.heap[wr.heap.size]? = some (.cells x.cells.toArray 78 (0, 0)) := (by rw [← hW5]; exact new_blk _ _ rfl); have n5 : Nb wr W5 := (by rw [← hW5]; exact alloc_nb _ _); rw [hW5]; clear hW5)
        | (refine wpList_load_row rfl 78 (.tmp 8) rfl wr.heap.size rfl 78 x.cells.toArray (0, 0) _ b5 Tryd.underlying78 rfl (show (Tryd.prog.info? 78).map (·.size) = some 15 by kernel_rfl) ?_)
        | (go_at_call 32; refine (hcall.out _ n5).mono ?_; rintro r w6 (⟨rfl, hj6, hk6⟩ | ⟨rfl, q, hq, hx6⟩)))
      · refine ⟨⟨i + 1, by omega, by simp, by rw [htk.out, ← List.append_assoc]; exact hj6, hk.trans ((Kp.of_nb hnb.out.size n5).trans hk6)⟩, by simp [intOf] <;> omega⟩
      · go_ret
        exact .inr ⟨rfl, _, hpf.out q hq, by rw [← List.append_assoc]; exact hx6⟩
    · obtain rfl : i = M := by omega
      have hall : ((l.take i).map fl).flatten = F := by rw [← hFh.out, ← hMh.out, List.take_length]
      have hj := Lib.hid (show J (pre ++ F) wr by rw [← hall]; exact hj.out)
      go_wp2_with fail
      go_ret
      exact .inl ⟨rfl, hj.out, hk⟩
end Go.Proofs.YtojogolmcclpoaaDoor
end
section
namespace Go.Proofs.YtojogolmcclpoaaDoor
open Go.RowKit
set_option linter.unusedVariables false
set_option linter.unusedSimpArgs false
set_option maxRecDepth 100000
set_option maxHeartbeats 4000000
theorem eachB_any (W0 : World) (hi N : Nat) (J Jx : List Pt → World → Prop) (hJ : ∀ pre W W', J pre W → Nb W W' → J pre W') (L : Nat) (hL : L ≤ 66) (c0 c1 c2 c3 c4 : Nat) (S : World → Prop)
    (hS : ∀ A B, Kp W0.heap.size hi A B → S A → S B) (fl : Bd → List Pt) (l : List Bd) (hok : ∀ x ∈ l, x.cells.toArray.all (·.oneCell') = true)
    (one : ∀ x ∈ l, ∀ pre W, Nb W0 W → S W → J pre W → pre.length + (fl x).length ≤ N → Calls Tryd.prog 34 #[.agg x.cells.toArray, .int .i64 L, .pointer (some ⟨c0, 0, none⟩), .pointer (some ⟨c1, 0, none⟩), .pointer (some ⟨c2, 0, none⟩), .pointer (some ⟨c3, 0, none⟩), .pointer (some ⟨c4, 0, none⟩)] W (Goes (J := J) (Jx := Jx) W0.heap.size hi pre (fl x) W))
    (v : Value) (hrow : RowS W0 9 v (l.map Bd.cells)) (pre : List Pt) (W : World) (hW : Nb W0 W) (hSW : S W) (h0 : J pre W) (hN : pre.length + ((l.map fl).flatten).length ≤ N) :
    Calls Tryd.prog 37 #[v, .int .i64 L, .func (.func 34) #[] #[.pointer (some ⟨c0, 0, none⟩), .pointer (some ⟨c1, 0, none⟩), .pointer (some ⟨c2, 0, none⟩), .pointer (some ⟨c3, 0, none⟩), .pointer (some ⟨c4, 0, none⟩)]] W (Goes (J := J) (Jx := Jx) W0.heap.size hi pre ((l.map fl).flatten) W) := by
  obtain ⟨A, cap, rfl, hcap, hlen, hz⟩ := hrow.head
  have hX := Lib.hid hrow
  rw [List.length_map] at hcap hlen hX ⊢
  obtain ⟨M, hM⟩ : ∃ M, l.length = M := ⟨_, rfl⟩
  have hMh := Lib.hid hM
  rw [hM] at hcap hlen hX ⊢
  clear hM hrow
  obtain ⟨F, hF⟩ : ∃ F, (l.map fl).flatten = F := ⟨_, rfl⟩
  have hFh := Lib.hid hF
  rw [hF] at hN ⊢
  clear hF
  have hJ := Lib.hid hJ
  have hokh := Lib.hid hok
  clear hok
  have hone := Lib.hid one
  have hS := Lib.hid hS
  have h0 := Lib.hid h0
  have hSW := Lib.hid hSW
  have hNh := Lib.hid hN
  clear one hN
  go_enter Tryd.func37, Tryd.ntmps37
  go_wp2_with fail
  go_loopw [11] (fun si wr => ∃ i : Nat, i ≤ M ∧ si = .int .i64 i ∧ J (pre ++ ((l.take i).map fl).flatten) wr ∧ Kp W0.heap.size hi W wr) (fun si _ => M - (intOf si).toNat)
  case atStart => exact ⟨0, Nat.zero_le _, rfl, by simpa using h0.out, Kp.refl _⟩
  case round =>
    obtain ⟨i, hi2, rfl, hj, hk⟩ := hrel
    have hj := Lib.hid hj
    by_cases hlt2 : i < M
    · have hlt3 : (i : Int) < (M : Int) := by omega
      obtain ⟨x, hx⟩ : ∃ x, l[i]? = some x := ⟨_, List.getElem?_eq_getElem (by rw [hMh.out]; exact hlt2)⟩
      obtain ⟨b, o, rfl, hxc⟩ := hX.out.at_ (i := i) (r := x.cells) (by rw [List.getElem?_map, hx]; rfl)
      have hnb : Nb W0 wr := hW.trans' hk
      have y0 := hnb.cell (hxc 0 _ rfl)
      have y1 := hnb.cell (hxc 1 _ rfl)
      have y2 := hnb.cell (hxc 2 _ rfl)
      have y3 := hnb.cell (hxc 3 _ rfl)
      have y4 := hnb.cell (hxc 4 _ rfl)
      have y5 := hnb.cell (hxc 5 _ rfl)
      have y6 := hnb.cell (hxc 6 _ rfl)
      have y7 := hnb.cell (hxc 7 _ rfl)
      have y8 := hnb.cell (hxc 8 _ rfl)
      rw [Nat.add_zero] at y0
      have htk : ((l.take (i + 1)).map fl).flatten = ((l.take i).map fl).flatten ++ fl x := by rw [List.take_add_one, hx]; simp
      have hle : ((l.take i).map fl).flatten.length + (fl x).length ≤ F.length := by
        rw [← List.length_append, ← htk, ← hFh.out]
        exact (flat_prefix fl l (i + 1)).length_le
      have hpf : ∀ q, q <+: fl x → ((l.take i).map fl).flatten ++ q <+: F := fun q hq => by
        rw [← hFh.out]
        refine List.IsPrefix.trans ?_ (flat_prefix fl l (i + 1))
        rw [htk]
        obtain ⟨t, ht⟩ := hq
        exact ⟨t, by rw [List.append_assoc, ht]⟩
      have hcall := Lib.hid (fun W5 (h5 : Nb wr W5) => hone.out x (List.mem_of_getElem? hx) (pre ++ ((l.take i).map fl).flatten) W5 (hnb.trans h5) (hS.out _ _ (hk.trans (Kp.of_nb hnb.size h5)) hSW.out) (hJ.out _ _ _ hj.out h5) (by rw [List.length_append]; have := hNh.out; omega))
      have htk := Lib.hid htk
      have hpf := Lib.hid hpf
      have hnb := Lib.hid hnb
      have hox := Lib.hid (hokh.out x (List.mem_of_getElem? hx))
      clear hx hxc hle
      go_wp2_with (first
        | (refine wpList_store_new' rfl 44 (.tmp 8) (.tmp 14) rfl _ x.cells.toArray _ rfl rfl (show (Tryd.prog.info? 44).map (·.size) = some 9 by kernel_rfl) rfl hox.out ?_; obtain ⟨W5, hW5⟩ : ∃ W5, wr.alloc (.cells x.cells.toArray 44) = W5 := ⟨_, rfl⟩; have b5 : W5.heap[wr.heap.size]? = some (.cells x.cells.toArray 44 (0, 0)) := (by rw [← hW5]; exact new_blk _ _ rfl); have n5 : Nb wr W5 := (by rw [← hW5]; exact alloc_nb _ _); rw [hW5]; clear hW5)
        | (refine wpList_load_row rfl 44 (.tmp 8) rfl wr.heap.size rfl 44 x.cells.toArray (0, 0) _ b5 Tryd.underlying44 rfl (show (Tryd.prog.info? 44).map (·.size) = some 9 by kernel_rfl) ?_)
        | (go_at_call 34; refine (hcall.out _ n5).mono ?_; rintro r w6 (⟨rfl, hj6, hk6⟩ | ⟨rfl, q, hq, hx6⟩)))
      · refine ⟨⟨i + 1, by omega, by simp, by rw [htk.out, ← List.append_assoc]; exact hj6, hk.trans ((Kp.of_nb hnb.out.size n5).trans hk6)⟩, by simp [intOf] <;> omega⟩
      · go_ret
        exact .inr ⟨rfl, _, hpf.out q hq, by rw [← List.append_assoc]; exact hx6⟩
    · obtain rfl : i = M := by omega
      have hall : ((l.take i).map fl).flatten = F := by rw [← hFh.out, ← hMh.out, List.take_length]
      have hj := Lib.hid (show J (pre ++ F) wr by rw [← hall]; exact hj.out)
      go_wp2_with fail
      go_ret
      exact .inl ⟨rfl, hj.out, hk⟩
theorem eachD_any (W0 : World) (hi N : Nat) (J Jx : List Pt → World → Prop) (hJ : ∀ pre W W', J pre W → Nb W W' → J pre W') (L : Nat) (hL : L ≤ 66) (c0 c1 c2 : Nat) (S : World → Prop)
    (hS : ∀ A B, Kp W0.heap.size hi A B → S A → S B) (fl : Df → List Pt) (l : List Df) (hok : ∀ x ∈ l, x.cells.toArray.all (·.oneCell') = true)
    (one : ∀ x ∈ l, ∀ pre W, Nb W0 W → S W → J pre W → pre.length + (fl x).length ≤ N → Calls Tryd.prog 41 #[.agg x.cells.toArray, .int .i64 L, .pointer (some ⟨c0, 0, none⟩), .pointer (some ⟨c1, 0, none⟩), .pointer (some ⟨c2, 0, none⟩)] W (Goes (J := J) (Jx := Jx) W0.heap.size hi pre (fl x) W))
    (v : Value) (hrow : RowS W0 12 v (l.map Df.cells)) (pre : List Pt) (W : World) (hW : Nb W0 W) (hSW : S W) (h0 : J pre W) (hN : pre.length + ((l.map fl).flatten).length ≤ N) :
    Calls Tryd.prog 45 #[v, .int .i64 L, .func (.func 41) #[] #[.pointer (some ⟨c0, 0, none⟩), .pointer (some ⟨c1, 0, none⟩), .pointer (some ⟨c2, 0, none⟩)]] W (Goes (J := J) (Jx := Jx) W0.heap.size hi pre ((l.map fl).flatten) W) := by
  obtain ⟨A, cap, rfl, hcap, hlen, hz⟩ := hrow.head
  have hX := Lib.hid hrow
  rw [List.length_map] at hcap hlen hX ⊢
  obtain ⟨M, hM⟩ : ∃ M, l.length = M := ⟨_, rfl⟩
  have hMh := Lib.hid hM
  rw [hM] at hcap hlen hX ⊢
  clear hM hrow
  obtain ⟨F, hF⟩ : ∃ F, (l.map fl).flatten = F := ⟨_, rfl⟩
  have hFh := Lib.hid hF
  rw [hF] at hN ⊢
  clear hF
  have hJ := Lib.hid hJ
  have hokh := Lib.hid hok
  clear hok
  have hone := Lib.hid one
  have hS := Lib.hid hS
  have h0 := Lib.hid h0
  have hSW := Lib.hid hSW
  have hNh := Lib.hid hN
  clear one hN
  go_enter Tryd.func45, Tryd.ntmps45
  go_wp2_with fail
  go_loopw [11] (fun si wr => ∃ i : Nat, i ≤ M ∧ si = .int .i64 i ∧ J (pre ++ ((l.take i).map fl).flatten) wr ∧ Kp W0.heap.size hi W wr) (fun si _ => M - (intOf si).toNat)
  case atStart => exact ⟨0, Nat.zero_le _, rfl, by simpa using h0.out, Kp.refl _⟩
  case round =>
    obtain ⟨i, hi2, rfl, hj, hk⟩ := hrel
    have hj := Lib.hid hj
    by_cases hlt2 : i < M
    · have hlt3 : (i : Int) < (M : Int) := by omega
      obtain ⟨x, hx⟩ : ∃ x, l[i]? = some x := ⟨_, List.getElem?_eq_getElem (by rw [hMh.out]; exact hlt2)⟩
      obtain ⟨b, o, rfl, hxc⟩ := hX.out.at_ (i := i) (r := x.cells) (by rw [List.getElem?_map, hx]; rfl)
      have hnb : Nb W0 wr := hW.trans' hk
      have y0 := hnb.cell (hxc 0 _ rfl)
      have y1 := hnb.cell (hxc 1 _ rfl)
      have y2 := hnb.cell (hxc 2 _ rfl)
      have y3 := hnb.cell (hxc 3 _ rfl)
      have y4 := hnb.cell (hxc 4 _ rfl)
      have y5 := hnb.cell (hxc 5 _ rfl)
      have y6 := hnb.cell (hxc 6 _ rfl)
      have y7 := hnb.cell (hxc 7 _ rfl)
      have y8 := hnb.cell (hxc 8 _ rfl)
      have y9 := hnb.cell (hxc 9 _ rfl)
      have y10 := hnb.cell (hxc 10 _ rfl)
      have y11 := hnb.cell (hxc 11 _ rfl)
      rw [Nat.add_zero] at y0
      have htk : ((l.take (i + 1)).map fl).flatten = ((l.take i).map fl).flatten ++ fl x := by rw [List.take_add_one, hx]; simp
      have hle : ((l.take i).map fl).flatten.length + (fl x).length ≤ F.length := by
        rw [← List.length_append, ← htk, ← hFh.out]
        exact (flat_prefix fl l (i + 1)).length_le
      have hpf : ∀ q, q <+: fl x → ((l.take i).map fl).flatten ++ q <+: F := fun q hq => by
        rw [← hFh.out]
        refine List.IsPrefix.trans ?_ (flat_prefix fl l (i + 1))
        rw [htk]
        obtain ⟨t, ht⟩ := hq
        exact ⟨t, by rw [List.append_assoc, ht]⟩
      have hcall := Lib.hid (fun W5 (h5 : Nb wr W5) => hone.out x (List.mem_of_getElem? hx) (pre ++ ((l.take i).map fl).flatten) W5 (hnb.trans h5) (hS.out _ _ (hk.trans (Kp.of_nb hnb.size h5)) hSW.out) (hJ.out _ _ _ hj.out h5) (by rw [List.length_append]; have := hNh.out; omega))
      have htk := Lib.hid htk
      have hpf := Lib.hid hpf
      have hnb := Lib.hid hnb
      have hox := Lib.hid (hokh.out x (List.mem_of_getElem? hx))
      clear hx hxc hle
      go_wp2_with (first
        | (refine wpList_store_new' rfl 46 (.tmp 8) (.tmp 14) rfl _ x.cells.toArray _ rfl rfl (show (Tryd.prog.info? 46).map (·.size) = some 12 by kernel_rfl) rfl hox.out ?_; obtain ⟨W5, hW5⟩ : ∃ W5, wr.alloc (.cells x.cells.toArray 46) = W5 := ⟨_, rfl⟩; have b5 : W5.heap[wr.heap.size]? = some (.cells x.cells.toArray 46 (0, 0)) := (by rw [← hW5]; exact new_blk _ _ rfl); have n5 : Nb wr W5 := (by rw [← hW5]; exact alloc_nb _ _); rw [hW5]; clear hW5)
        | (refine wpList_load_row rfl 46 (.tmp 8) rfl wr.heap.size rfl 46 x.cells.toArray (0, 0) _ b5 Tryd.underlying46 rfl (show (Tryd.prog.info? 46).map (·.size) = some 12 by kernel_rfl) ?_)
        | (go_at_call 41; refine (hcall.out _ n5).mono ?_; rintro r w6 (⟨rfl, hj6, hk6⟩ | ⟨rfl, q, hq, hx6⟩)))
      · refine ⟨⟨i + 1, by omega, by simp, by rw [htk.out, ← List.append_assoc]; exact hj6, hk.trans ((Kp.of_nb hnb.out.size n5).trans hk6)⟩, by simp [intOf] <;> omega⟩
      · go_ret
        exact .inr ⟨rfl, _, hpf.out q hq, by rw [← List.append_assoc]; exact hx6⟩
    · obtain rfl : i = M := by omega
      have hall : ((l.take i).map fl).flatten = F := by rw [← hFh.out, ← hMh.out, List.take_length]
      have hj := Lib.hid (show J (pre ++ F) wr by rw [← hall]; exact hj.out)
      go_wp2_with fail
      go_ret
      exact .inl ⟨rfl, hj.out, hk⟩
end Go.Proofs.YtojogolmcclpoaaDoor
end
