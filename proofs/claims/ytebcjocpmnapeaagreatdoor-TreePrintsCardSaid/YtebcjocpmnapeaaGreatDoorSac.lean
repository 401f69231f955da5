/-
  Proved here: each over patterns, statements, names. Conditions: the memory holds the list. ¦ a region that draws its order and may call a round's yield, stage by stage: up to a set of operations that every order comes to. Conditions: stated in each.
-/
import Derived.Test.YtebcjocpmnapeaaGreatDoorSab
section
namespace Go.Proofs.YtebcjocpmnapeaaGreatDoor
open Go.RowKit
set_option linter.unusedVariables false
set_option linter.unusedSimpArgs false
set_option maxRecDepth 100000
set_option maxHeartbeats 4000000
theorem eachT_any (W0 : World) (hi N : Nat) (J Jx : List Pt → World → Prop) (hJ : ∀ pre W W', J pre W → Nb W W' → J pre W') (L : Nat) (hL : L ≤ 66) (c0 c1 : Nat) (S : World → Prop)
    (hS : ∀ A B, Kp W0.heap.size hi A B → S A → S B) (fl : Ex → List Pt) (l : List Ex) (hok : ∀ x ∈ l, x.cells.toArray.all (·.oneCell') = true)
    (one : ∀ x ∈ l, ∀ pre W, Nb W0 W → S W → J pre W → pre.length + (fl x).length ≤ N → Calls Tryz.prog 31 #[.agg x.cells.toArray, .int .i64 L, .pointer (some ⟨c0, 0, none⟩), .pointer (some ⟨c1, 0, none⟩)] W (Goes (J := J) (Jx := Jx) W0.heap.size hi pre (fl x) W))
    (v : Value) (hrow : RowS W0 5 v (l.map Ex.cells)) (pre : List Pt) (W : World) (hW : Nb W0 W) (hSW : S W) (h0 : J pre W) (hN : pre.length + ((l.map fl).flatten).length ≤ N) :
    Calls Tryz.prog 33 #[v, .int .i64 L, .func (.func 31) #[] #[.pointer (some ⟨c0, 0, none⟩), .pointer (some ⟨c1, 0, none⟩)]] W (Goes (J := J) (Jx := Jx) W0.heap.size hi pre ((l.map fl).flatten) W) := by
  obtain ⟨A, cap, rfl, hcap, hlen, hz⟩ := hrow.head
  have hX := Lib.hid hrow
  rw [List.length_map] at hcap hlen hX ⊢
  obtain ⟨M, hM⟩ : ∃ M, l.length = M := ⟨_, rfl⟩
  have hMh := Lib.hid hM
  rw [hM] at hcap hlen hX ⊢
  clear hM hrow
  obtain ⟨F, hF⟩ : ∃ F, (l.map fl).flatten = F := ⟨_, rfl⟩
  have hFh := Lib.hid hF
  rw [hF] at hN ⊢
  clear hF
  have hJ := Lib.hid hJ
  have hokh := Lib.hid hok
  clear hok
  have hone := Lib.hid one
  have hS := Lib.hid hS
  have h0 := Lib.hid h0
  have hSW := Lib.hid hSW
  have hNh := Lib.hid hN
  clear one hN
  go_enter Tryz.func33, Tryz.ntmps33
  go_wp2_with fail
  go_loopw [11] (fun si wr => ∃ i : Nat, i ≤ M ∧ si = .int .i64 i ∧ J (pre ++ ((l.take i).map fl).flatten) wr ∧ Kp W0.heap.size hi W wr) (fun si _ => M - (intOf si).toNat)
  case atStart => exact ⟨0, Nat.zero_le _, rfl, by simpa using h0.out, Kp.refl _⟩
  case round =>
    obtain ⟨i, hi2, rfl, hj, hk⟩ := hrel
    have hj := Lib.hid hj
    by_cases hlt2 : i < M
    · have hlt3 : (i : Int) < (M : Int) := by omega
      obtain ⟨x, hx⟩ : ∃ x, l[i]? = some x := ⟨_, List.getElem?_eq_getElem (by rw [hMh.out]; exact hlt2)⟩
      obtain ⟨b, o, rfl, hxc⟩ := hX.out.at_ (i := i) (r := x.cells) (by rw [List.getElem?_map, hx]; rfl)
      have hnb : Nb W0 wr := hW.trans' hk
      have y0 := hnb.cell (hxc 0 _ rfl)
      have y1 := hnb.cell (hxc 1 _ rfl)
      have y2 := hnb.cell (hxc 2 _ rfl)
      have y3 := hnb.cell (hxc 3 _ rfl)
      have y4 := hnb.cell (hxc 4 _ rfl)
      rw [Nat.add_zero] at y0
      have htk : ((l.take (i + 1)).map fl).flatten = ((l.take i).map fl).flatten ++ fl x := by rw [List.take_add_one, hx]; simp
      have hle : ((l.take i).map fl).flatten.length + (fl x).length ≤ F.length := by
        rw [← List.length_append, ← htk, ← hFh.out]
        exact (flat_prefix fl l (i + 1)).length_le
      have hpf : ∀ q, q <+: fl x → ((l.take i).map fl).flatten ++ q <+: F := fun q hq => by
        rw [← hFh.out]
        refine List.IsPrefix.trans ?_ (flat_prefix fl l (i + 1))
        rw [htk]
        obtain ⟨t, ht⟩ := hq
        exact ⟨t, by rw [List.append_assoc, ht]⟩
      have hcall := Lib.hid (fun W5 (h5 : Nb wr W5) => hone.out x (List.mem_of_getElem? hx) (pre ++ ((l.take i).map fl).flatten) W5 (hnb.trans h5) (hS.out _ _ (hk.trans (Kp.of_nb hnb.size h5)) hSW.out) (hJ.out _ _ _ hj.out h5) (by rw [List.length_append]; have := hNh.out; omega))
      have htk := Lib.hid htk
      have hpf := Lib.hid hpf
      have hnb := Lib.hid hnb
      have hox := Lib.hid (hokh.out x (List.mem_of_getElem? hx))
      clear hx hxc hle
      go_wp2_with (first
        | (refine wpList_store_new' rfl 73 (.tmp 8) (.tmp 14) rfl _ x.cells.toArray _ rfl rfl (show (Tryz.prog.info? 73).map (·.size) = some 5 by kernel_rfl) rfl hox.out ?_; obtain ⟨W5, hW5⟩ : ∃ W5, wr.alloc (.cells x.cells.toArray 73) = W5 := ⟨_, rfl⟩; have b5 : W5.heap[wr.heap.size]? = some (.cells x.cells.toArray 73 (0, 0)) := (by rw [← hW5]; exact new_blk _ _ rfl); have n5 : Nb wr W5 := (by rw [← hW5]; exact alloc_nb _ _); rw [hW5]; clear hW5)
        | (refine wpList_load_row rfl 73 (.tmp 8) rfl wr.heap.size rfl 73 x.cells.toArray (0, 0) _ b5 Tryz.underlying73 rfl (show (Tryz.prog.info? 73).map (·.size) = some 5 by kernel_rfl) ?_)
        | (go_at_call 31; refine (hcall.out _ n5).mono ?_; rintro r w6 (⟨rfl, hj6, hk6⟩ | ⟨rfl, q, hq, hx6⟩)))
      · refine ⟨⟨i + 1, by omega, by simp, by rw [htk.out, ← List.append_assoc]; exact hj6, hk.trans ((Kp.of_nb hnb.out.size n5).trans hk6)⟩, by simp [intOf] <;> omega⟩
      · go_ret
        exact .inr ⟨rfl, _, hpf.out q hq, by rw [← List.append_assoc]; exact hx6⟩
    · obtain rfl : i = M := by omega
      have hall : ((l.take i).map fl).flatten = F := by rw [← hFh.out, ← hMh.out, List.take_length]
      have hj := Lib.hid (show J (pre ++ F) wr by rw [← hall]; exact hj.out)
      go_wp2_with fail
      go_ret
      exact .inl ⟨rfl, hj.out, hk⟩
theorem eachS_any (W0 : World) (hi N : Nat) (J Jx : List Pt → World → Prop) (hJ : ∀ pre W W', J pre W → Nb W W' → J pre W') (L : Nat) (hL : L ≤ 66) (c0 c1 : Nat) (S : World → Prop)
    (hS : ∀ A B, Kp W0.heap.size hi A B → S A → S B) (fl : St → List Pt) (l : List St) (hok : ∀ x ∈ l, x.cells.toArray.all (·.oneCell') = true)
    (one : ∀ x ∈ l, ∀ pre W, Nb W0 W → S W → J pre W → pre.length + (fl x).length ≤ N → Calls Tryz.prog 34 #[.agg x.cells.toArray, .int .i64 L, .pointer (some ⟨c0, 0, none⟩), .pointer (some ⟨c1, 0, none⟩)] W (Goes (J := J) (Jx := Jx) W0.heap.size hi pre (fl x) W))
    (v : Value) (hrow : RowS W0 5 v (l.map St.cells)) (pre : List Pt) (W : World) (hW : Nb W0 W) (hSW : S W) (h0 : J pre W) (hN : pre.length + ((l.map fl).flatten).length ≤ N) :
    Calls Tryz.prog 40 #[v, .int .i64 L, .func (.func 34) #[] #[.pointer (some ⟨c0, 0, none⟩), .pointer (some ⟨c1, 0, none⟩)]] W (Goes (J := J) (Jx := Jx) W0.heap.size hi pre ((l.map fl).flatten) W) := by
  obtain ⟨A, cap, rfl, hcap, hlen, hz⟩ := hrow.head
  have hX := Lib.hid hrow
  rw [List.length_map] at hcap hlen hX ⊢
  obtain ⟨M, hM⟩ : ∃ M, l.length = M := ⟨_, rfl⟩
  have hMh := Lib.hid hM
  rw [hM] at hcap hlen hX ⊢
  clear hM hrow
  obtain ⟨F, hF⟩ : ∃ F, (l.map fl).flatten = F := ⟨_, rfl⟩
  have hFh := Lib.hid hF
  rw [hF] at hN ⊢
  clear hF
  have hJ := Lib.hid hJ
  have hokh := Lib.hid hok
  clear hok
  have hone := Lib.hid one
  have hS := Lib.hid hS
  have h0 := Lib.hid h0
  have hSW := Lib.hid hSW
  have hNh := Lib.hid hN
  clear one hN
  go_enter Tryz.func40, Tryz.ntmps40
  go_wp2_with fail
  go_loopw [11] (fun si wr => ∃ i : Nat, i ≤ M ∧ si = .int .i64 i ∧ J (pre ++ ((l.take i).map fl).flatten) wr ∧ Kp W0.heap.size hi W wr) (fun si _ => M - (intOf si).toNat)
  case atStart => exact ⟨0, Nat.zero_le _, rfl, by simpa using h0.out, Kp.refl _⟩
  case round =>
    obtain ⟨i, hi2, rfl, hj, hk⟩ := hrel
    have hj := Lib.hid hj
    by_cases hlt2 : i < M
    · have hlt3 : (i : Int) < (M : Int) := by omega
      obtain ⟨x, hx⟩ : ∃ x, l[i]? = some x := ⟨_, List.getElem?_eq_getElem (by rw [hMh.out]; exact hlt2)⟩
      obtain ⟨b, o, rfl, hxc⟩ := hX.out.at_ (i := i) (r := x.cells) (by rw [List.getElem?_map, hx]; rfl)
      have hnb : Nb W0 wr := hW.trans' hk
      have y0 := hnb.cell (hxc 0 _ rfl)
      have y1 := hnb.cell (hxc 1 _ rfl)
      have y2 := hnb.cell (hxc 2 _ rfl)
      have y3 := hnb.cell (hxc 3 _ rfl)
      have y4 := hnb.cell (hxc 4 _ rfl)
      rw [Nat.add_zero] at y0
      have htk : ((l.take (i + 1)).map fl).flatten = ((l.take i).map fl).flatten ++ fl x := by rw [List.take_add_one, hx]; simp
      have hle : ((l.take i).map fl).flatten.length + (fl x).length ≤ F.length := by
        rw [← List.length_append, ← htk, ← hFh.out]
        exact (flat_prefix fl l (i + 1)).length_le
      have hpf : ∀ q, q <+: fl x → ((l.take i).map fl).flatten ++ q <+: F := fun q hq => by
        rw [← hFh.out]
        refine List.IsPrefix.trans ?_ (flat_prefix fl l (i + 1))
        rw [htk]
        obtain ⟨t, ht⟩ := hq
        exact ⟨t, by rw [List.append_assoc, ht]⟩
      have hcall := Lib.hid (fun W5 (h5 : Nb wr W5) => hone.out x (List.mem_of_getElem? hx) (pre ++ ((l.take i).map fl).flatten) W5 (hnb.trans h5) (hS.out _ _ (hk.trans (Kp.of_nb hnb.size h5)) hSW.out) (hJ.out _ _ _ hj.out h5) (by rw [List.length_append]; have := hNh.out; omega))
      have htk := Lib.hid htk
      have hpf := Lib.hid hpf
      have hnb := Lib.hid hnb
      have hox := Lib.hid (hokh.out x (List.mem_of_getElem? hx))
      clear hx hxc hle
      go_wp2_with (first
        | (refine wpList_store_new' rfl 34 (.tmp 8) (.tmp 14) rfl _ x.cells.toArray _ rfl rfl (show (Tryz.prog.info? 34).map (·.size) = some 5 by kernel_rfl) rfl hox.out ?_; obtain ⟨W5, hW5⟩ : ∃ W5, wr.alloc (.cells x.cells.toArray 34) = W5 := ⟨_, rfl⟩; have b5 : W5.heap[wr.heap.size]? = some (.cells x.cells.toArray 34 (0, 0)) := (by rw [← hW5]; exact new_blk _ _ rfl); have n5 : Nb wr W5 := (by rw [← hW5]; exact alloc_nb _ _); rw [hW5]; clear hW5)
        | (refine wpList_load_row rfl 34 (.tmp 8) rfl wr.heap.size rfl 34 x.cells.toArray (0, 0) _ b5 Tryz.underlying34 rfl (show (Tryz.prog.info? 34).map (·.size) = some 5 by kernel_rfl) ?_)
        | (go_at_call 34; refine (hcall.out _ n5).mono ?_; rintro r w6 (⟨rfl, hj6, hk6⟩ | ⟨rfl, q, hq, hx6⟩)))
      · refine ⟨⟨i + 1, by omega, by simp, by rw [htk.out, ← List.append_assoc]; exact hj6, hk.trans ((Kp.of_nb hnb.out.size n5).trans hk6)⟩, by simp [intOf] <;> omega⟩
      · go_ret
        exact .inr ⟨rfl, _, hpf.out q hq, by rw [← List.append_assoc]; exact hx6⟩
    · obtain rfl : i = M := by omega
      have hall : ((l.take i).map fl).flatten = F := by rw [← hFh.out, ← hMh.out, List.take_length]
      have hj := Lib.hid (show J (pre ++ F) wr by rw [← hall]; exact hj.out)
      go_wp2_with fail
      go_ret
      exact .inl ⟨rfl, hj.out, hk⟩
theorem eachM_any (W0 : World) (hi N : Nat) (J Jx : List Pt → World → Prop) (hJ : ∀ pre W W', J pre W → Nb W W' → J pre W') (L : Nat) (hL : L ≤ 66) (c0 : Nat) (S : World → Prop)
    (hS : ∀ A B, Kp W0.heap.size hi A B → S A → S B) (fl : Bs → List Pt) (l : List Bs)
    (one : ∀ x ∈ l, ∀ pre W, Nb W0 W → S W → J pre W → pre.length + (fl x).length ≤ N → Calls Tryz.prog 43 #[sV x, .int .i64 L, .pointer (some ⟨c0, 0, none⟩)] W (Goes (J := J) (Jx := Jx) W0.heap.size hi pre (fl x) W))
    (v : Value) (hrow : RowS W0 1 v (l.map fun s => [sV s])) (pre : List Pt) (W : World) (hW : Nb W0 W) (hSW : S W) (h0 : J pre W) (hN : pre.length + ((l.map fl).flatten).length ≤ N) :
    Calls Tryz.prog 47 #[v, .int .i64 L, .func (.func 43) #[] #[.pointer (some ⟨c0, 0, none⟩)]] W (Goes (J := J) (Jx := Jx) W0.heap.size hi pre ((l.map fl).flatten) W) := by
  obtain ⟨A, cap, rfl, hcap, hlen, hz⟩ := hrow.head
  have hX := Lib.hid hrow
  rw [List.length_map] at hcap hlen hX ⊢
  obtain ⟨M, hM⟩ : ∃ M, l.length = M := ⟨_, rfl⟩
  have hMh := Lib.hid hM
  rw [hM] at hcap hlen hX ⊢
  clear hM hrow
  obtain ⟨F, hF⟩ : ∃ F, (l.map fl).flatten = F := ⟨_, rfl⟩
  have hFh := Lib.hid hF
  rw [hF] at hN ⊢
  clear hF
  have hJ := Lib.hid hJ
  have hone := Lib.hid one
  have hS := Lib.hid hS
  have h0 := Lib.hid h0
  have hSW := Lib.hid hSW
  have hNh := Lib.hid hN
  clear one hN
  go_enter Tryz.func47, Tryz.ntmps47
  go_wp2_with fail
  go_loopw [11] (fun si wr => ∃ i : Nat, i ≤ M ∧ si = .int .i64 i ∧ J (pre ++ ((l.take i).map fl).flatten) wr ∧ Kp W0.heap.size hi W wr) (fun si _ => M - (intOf si).toNat)
  case atStart => exact ⟨0, Nat.zero_le _, rfl, by simpa using h0.out, Kp.refl _⟩
  case round =>
    obtain ⟨i, hi2, rfl, hj, hk⟩ := hrel
    have hj := Lib.hid hj
    by_cases hlt2 : i < M
    · have hlt3 : (i : Int) < (M : Int) := by omega
      obtain ⟨x, hx⟩ : ∃ x, l[i]? = some x := ⟨_, List.getElem?_eq_getElem (by rw [hMh.out]; exact hlt2)⟩
      obtain ⟨b, o, rfl, hxc⟩ := hX.out.at_ (i := i) (r := [sV x]) (by rw [List.getElem?_map, hx]; rfl)
      have hnb : Nb W0 wr := hW.trans' hk
      have y0 := hnb.cell (hxc 0 _ rfl)
      rw [Nat.mul_one, Nat.add_zero] at y0
      have htk : ((l.take (i + 1)).map fl).flatten = ((l.take i).map fl).flatten ++ fl x := by rw [List.take_add_one, hx]; simp
      have hle : ((l.take i).map fl).flatten.length + (fl x).length ≤ F.length := by
        rw [← List.length_append, ← htk, ← hFh.out]
        exact (flat_prefix fl l (i + 1)).length_le
      have hpf : ∀ q, q <+: fl x → ((l.take i).map fl).flatten ++ q <+: F := fun q hq => by
        rw [← hFh.out]
        refine List.IsPrefix.trans ?_ (flat_prefix fl l (i + 1))
        rw [htk]
        obtain ⟨t, ht⟩ := hq
        exact ⟨t, by rw [List.append_assoc, ht]⟩
      have hcall := Lib.hid (fun W5 (h5 : Nb wr W5) => hone.out x (List.mem_of_getElem? hx) (pre ++ ((l.take i).map fl).flatten) W5 (hnb.trans h5) (hS.out _ _ (hk.trans (Kp.of_nb hnb.size h5)) hSW.out) (hJ.out _ _ _ hj.out h5) (by rw [List.length_append]; have := hNh.out; omega))
      have htk := Lib.hid htk
      have hpf := Lib.hid hpf
      have hnb := Lib.hid hnb
      clear hx hxc hle
      go_wp2_with (first
        | (go_at_call 43; refine (hcall.out _ (Nb.refl _)).mono ?_; rintro r w6 (⟨rfl, hj6, hk6⟩ | ⟨rfl, q, hq, hx6⟩)))
      · refine ⟨⟨i + 1, by omega, by simp, by rw [htk.out, ← List.append_assoc]; exact hj6, hk.trans (hk6)⟩, by simp [intOf] <;> omega⟩
      · go_ret
        exact .inr ⟨rfl, _, hpf.out q hq, by rw [← List.append_assoc]; exact hx6⟩
    · obtain rfl : i = M := by omega
      have hall : ((l.take i).map fl).flatten = F := by rw [← hFh.out, ← hMh.out, List.take_length]
      have hj := Lib.hid (show J (pre ++ F) wr by rw [← hall]; exact hj.out)
      go_wp2_with fail
      go_ret
      exact .inl ⟨rfl, hj.out, hk⟩
end Go.Proofs.YtebcjocpmnapeaaGreatDoor
end
section
namespace Go.Proofs.YtebcjocpmnapeaaGreatDoor
set_option linter.unusedVariables false
set_option linter.unusedSimpArgs false
section
variable {n : Nat} {P : Program} {ops : Array Oper} {Q : Exit → Act → World → Prop} {md : Region.Mode} {G : World → Prop} {R : Act → World → Prop} {stop : Array Bool}
def wpAnyS (n : Nat) (P : Program) (md : Region.Mode) (ops : Array Oper) (Q : Exit → Act → World → Prop) (G : World → Prop) (stop : Array Bool) (R : Act → World → Prop) : Nat → Array Bool → Act → World → Prop
  | 0, listed, a, w => listed = stop ∧ R a w
  | fuel + 1, listed, a, w =>
    Region.ready md ops listed ≠ [] ∧
    ∀ i ∈ Region.ready md ops listed, wpOpIn Fence.wide n P ops Q i (fun a' w' => G w' ∧ wpAnyS n P md ops Q G stop R fuel (listed.setIfInBounds i true) a' w') a w
theorem wpAnyIn_of_s {m : Nat} : ∀ (fuel : Nat) (listed : Array Bool) (a : Act) (w : World), wpAnyS n P md ops Q G stop (wpAnyIn Fence.wide n P md ops Q m stop) fuel listed a w → wpAnyIn Fence.wide n P md ops Q (m + fuel) listed a w
  | 0, _, _, _, h => by rw [h.1]; exact h.2
  | fuel + 1, _, _, _, h => ⟨fun h0 => absurd h0 h.1, fun i hi => wpOpIn_mono (fun a' w' h' => wpAnyIn_of_s fuel _ a' w' h'.2) (h.2 i hi)⟩
/-- What is listed waits for nothing that is not. -/
def Cl (md : Region.Mode) (ops : Array Oper) (L : Array Bool) : Prop := ∀ j o, ops[j]? = some o → L.getD j false = true → ∀ e ∈ o.after, Region.binds md e = true → L.getD e.on false = true
def closedB (md : Region.Mode) (ops : Array Oper) (L : Array Bool) : Bool := (List.range ops.size).all fun j => !(L.getD j false) || ((ops[j]?).map fun o => o.after.all fun e => !(Region.binds md e) || L.getD e.on false).getD true
theorem cl_iff {L : Array Bool} : closedB md ops L = true ↔ Cl md ops L := by
  unfold closedB Cl
  rw [List.all_eq_true]
  constructor
  · intro h j o ho hj e he hb
    have hlt : j < ops.size := by
      rcases Nat.lt_or_ge j ops.size with h' | h'
      · exact h'
      · rw [Array.getElem?_eq_none h'] at ho; cases ho
    have h1 := h j (List.mem_range.2 hlt)
    rw [ho, hj] at h1
    simp only [Bool.not_true, Bool.false_or, Option.map_some, Option.getD_some] at h1
    rw [Array.all_eq_true_iff_forall_mem] at h1
    have h2 := h1 e he
    rw [hb] at h2
    simpa using h2
  · intro h j hj
    cases hL : L.getD j false with
    | false => rfl
    | true =>
      cases ho : ops[j]? with
      | none => rfl
      | some o =>
        simp only [Bool.not_true, Bool.false_or, Option.map_some, Option.getD_some]
        rw [Array.all_eq_true_iff_forall_mem]
        intro e he
        cases hb : Region.binds md e with
        | false => rfl
        | true => simpa using h j o ho hL e he hb
theorem cl_set {L : Array Bool} {j : Nat} (h : Cl md ops L) (hj : j ∈ Region.ready md ops L) : Cl md ops (L.setIfInBounds j true) := by
  intro k o ho hk e he hb
  by_cases hkj : j = k
  · subst hkj
    obtain ⟨-, oj, hoj, hall⟩ := mem_ready.1 hj
    rw [ho] at hoj
    cases hoj
    exact getD_set_true (hall e he hb)
  · rw [getD_set_ne false hkj] at hk
    exact getD_set_true (h k o ho hk e he hb)
def lastB (md : Region.Mode) (ops : Array Oper) (stop : Array Bool) (i : Nat) : Bool := !(closedB md ops (stop.setIfInBounds i false)) || Region.ready md ops (stop.setIfInBounds i false) == [i]
theorem last_only {L : Array Bool} {i j : Nat} (hl : lastB md ops stop i = true) (hs : L.setIfInBounds i true = stop) (hc : Cl md ops L) (hi : i ∈ Region.ready md ops L) (hj : j ∈ Region.ready md ops L) : j = i := by
  have h0 := (mem_ready.1 hi).1
  have hL : stop.setIfInBounds i false = L := by
    rw [← hs]
    apply Array.ext
    · simp
    · intro k h1 h2
      by_cases hk : i = k
      · subst hk
        have h3 : i < L.size := h2
        simp [h3] at h0 ⊢
        exact h0
      · rw [Array.getElem_setIfInBounds_ne (by simpa using h1) hk, Array.getElem_setIfInBounds_ne (by simpa using h2) hk]
  unfold lastB at hl
  rw [hL, cl_iff.2 hc] at hl
  simp only [Bool.not_true, Bool.false_or, beq_iff_eq] at hl
  rw [hl] at hj
  simpa using hj
theorem wpAnyS_first {i : Nat} {oi : Oper} {v : Value} (hi : ops[i]? = some oi) (hsel : ∀ (j : Nat) (o : Oper) cs b, ops[j]? = some o → o.op ≠ .select cs b)
    (hQ : ∀ c a w, Q (.panic c) (a.put oi.dst v) w → Q (.panic c) a w) (hlast : lastB md ops stop i = true) :
    ∀ (fuel : Nat) (listed : Array Bool) (a : Act) (w : World),
      (∀ j oj, ops[j]? = some oj → j ≠ i → listed.getD j true = false → (∀ e ∈ oj.after, Region.binds md e = true → e.on ≠ i) → oi.apart ops oj = true) →
      i ∈ Region.ready md ops listed → Cl md ops listed → YieldsIf P ops G oi v a → G w →
      wpAnyS n P md ops Q G stop R fuel (listed.setIfInBounds i true) (a.put oi.dst v) w → wpAnyS n P md ops Q G stop R (fuel + 1) listed a w := by
  intro fuel
  induction fuel with
  | zero =>
    intro listed a w _ hr hc hy hS H
    refine ⟨fun h => (by rw [h] at hr; cases hr), fun j hj => ?_⟩
    obtain rfl : j = i := last_only hlast H.1 hc hr hj
    exact yieldsIf_w hi hy hS ⟨hS, H⟩
  | succ fuel ih =>
    intro listed a w hfree hr hc hy hS H
    refine ⟨fun h => (by rw [h] at hr; cases hr), fun j hj => ?_⟩
    by_cases hji : j = i
    · subst hji; exact yieldsIf_w hi hy hS ⟨hS, H⟩
    · have h1 := H.2 j (ready_mono hj hji)
      obtain ⟨hjun, oj, hoj, hall⟩ := mem_ready.1 hj
      have hnot : ∀ e ∈ oj.after, Region.binds md e = true → e.on ≠ i := fun e he hb heq => by
        have h1 := hall e he hb
        have h0 := (mem_ready.1 hr).1
        rw [heq] at h1
        rcases Nat.lt_or_ge i listed.size with h' | h'
        · simp [h'] at h0 h1; rw [h0] at h1; cases h1
        · simp [Array.getElem?_eq_none h'] at h1
      have h2 := wpOpW_putIf hoj (hfree j oj hoj hji hjun hnot) (fun cs b => hsel i oi cs b hi) (fun cs b => hsel j oj cs b hoj) hQ hy h1
      have hfree' : ∀ k ok, ops[k]? = some ok → k ≠ i → (listed.setIfInBounds j true).getD k true = false →
          (∀ e ∈ ok.after, Region.binds md e = true → e.on ≠ i) → oi.apart ops ok = true := fun k ok hk hki hun hno => by
        refine hfree k ok hk hki ?_ hno
        by_cases hjk : j = k
        · subst hjk; exact hjun
        · rw [getD_set_ne true hjk] at hun; exact hun
      refine wpOpIn_mono (fun a' w' h3 => ?_) h2
      refine ⟨h3.2.1, ih (listed.setIfInBounds j true) a' w' hfree' (ready_mono hr (Ne.symm hji)) (cl_set hc hj) h3.1 h3.2.1 ?_⟩
      rw [Array.setIfInBounds_comm _ _ hji]
      exact h3.2.2
theorem takeS {l : List Oper} {i : Nat} {oi : Oper} {v : Value} {fuel : Nat} {listed : Array Bool} {a : Act} {w : World} (hi : l[i]? = some oi)
    (hs : Region.noSelect l.toArray = true) (hf : Region.free md l.toArray listed i = true) (hr : (Region.ready md l.toArray listed).contains i = true) (hl : lastB md l.toArray stop i = true) (hc : closedB md l.toArray listed = true)
    (hQ : ∀ c a w, Q (.panic c) (a.put oi.dst v) w → Q (.panic c) a w) (hy : YieldsIf P l.toArray G oi v a) (hS : G w)
    (h : wpAnyS n P md l.toArray Q G stop R fuel (listed.setIfInBounds i true) (a.put oi.dst v) w) : wpAnyS n P md l.toArray Q G stop R (fuel + 1) listed a w :=
  have hi' : l.toArray[i]? = some oi := by rw [List.getElem?_toArray]; exact hi
  wpAnyS_first hi' (Region.noSelect_spec hs) hQ hl fuel listed a w (Region.free_spec hi' hf) (by simpa using hr) (cl_iff.1 hc) hy hS h
theorem onlyS {l : List Oper} {i : Nat} {o : Oper} {fuel : Nat} {listed : Array Bool} {a : Act} {w : World} (hr : Region.ready md l.toArray listed = [i]) (ho : l[i]? = some o) (hwant : Region.wanted o (yielded l.toArray a.tmps) = true)
    (h : ∀ K' : Act → World → Prop, Shut (∀ a w, G w → (G w → wpAnyS n P md l.toArray Q G stop R fuel (listed.setIfInBounds i true) a w) → K' a w) → Oper.wpIn Fence.wide n P o a w K' Q) :
    wpAnyS n P md l.toArray Q G stop R (fuel + 1) listed a w := by
  refine ⟨fun h0 => (by rw [h0] at hr; cases hr), fun j hj => ?_⟩
  rw [hr, List.mem_singleton] at hj
  subst hj
  refine wpOpIn_step (by rw [List.getElem?_toArray]; exact ho) (fun K' hK => ?_)
  rw [if_pos hwant]
  exact h K' (fun a w hS hW => hK a w ⟨hS, hW hS⟩)
theorem onlyIn {l : List Oper} {i : Nat} {o : Oper} {fuel : Nat} {listed : Array Bool} {a : Act} {w : World} (hr : Region.ready md l.toArray listed = [i]) (ho : l[i]? = some o) (hwant : Region.wanted o (yielded l.toArray a.tmps) = true)
    (h : ∀ K' : Act → World → Prop, Shut (∀ a w, wpAnyIn Fence.wide n P md l.toArray Q fuel (listed.setIfInBounds i true) a w → K' a w) → Oper.wpIn Fence.wide n P o a w K' Q) :
    wpAnyIn Fence.wide n P md l.toArray Q (fuel + 1) listed a w := by
  refine ⟨fun h0 => (by rw [h0] at hr; cases hr), fun j hj => ?_⟩
  rw [hr, List.mem_singleton] at hj
  subst hj
  refine wpOpIn_step (by rw [List.getElem?_toArray]; exact ho) (fun K' hK => ?_)
  rw [if_pos hwant]
  exact h K' (fun a w hW => hK a w hW)
/-- A stage. -/
theorem stage {fuel m : Nat} {l : List Oper} {listed : Array Bool} {a : Act} {w : World} (stop : Array Bool) (G : World → Prop) (hG : G w)
    (h : G w → wpAnyS n P md l.toArray Q G stop (wpAnyIn Fence.wide n P md l.toArray Q m stop) fuel listed a w) : wpAnyIn Fence.wide n P md l.toArray Q (m + fuel) listed a w :=
  wpAnyIn_of_s fuel listed a w (h hG)
theorem wp_region_s (n : Nat) {id : Nat} {a : Act} {w : World} (hm : P.follows .mixedOrders = true)
    (h : wpAnyIn Fence.wide n P .any ops Q ops.size (Array.replicate ops.size false) a w.drew) : (Code.region id ops true).wp P Q a w :=
  (wpIn_wide (n := n)).1 (wpIn_region_any hm h)
end
end Go.Proofs.YtebcjocpmnapeaaGreatDoor
end
