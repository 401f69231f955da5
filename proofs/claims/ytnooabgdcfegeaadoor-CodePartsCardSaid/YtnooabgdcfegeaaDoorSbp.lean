/-
  Proved here: whether items have one label for each name. Conditions: where the items lie.
-/
import Derived.Test.YtnooabgdcfegeaaDoorSbo
namespace Go.Proofs.YtnooabgdcfegeaaDoor
open Go.RowKit Go.Shelf Go.ChangeMaps
set_option linter.unusedVariables false
set_option linter.unusedSimpArgs false
set_option maxRecDepth 100000
set_option maxHeartbeats 8000000
attribute [local go_sem] Oper.semAt_some
/-- Has an item a name that no label has? -/
def lostI (f : Bs → Option Int) (i : Itm) : Bool := namesI i && ((f i.2.2.1).getD 0 == 0)
theorem lost_any (LB MB : Nat) (f : Bs → Option Int) (i : Itm) (w : World) (hb : w.heap[LB]? = some (.cells #[.map (some MB)] 99 (0, 0))) (hm : SMap w MB f) :
    Calls Tryd.prog 55 #[itmV i, .pointer (some ⟨LB, 0, none⟩)] w fun e w' => e = .returned (.bool (lostI f i)) ∧ Nb w w' := by
  have hn := names_any i
  unfold lostI
  obtain ⟨NI, hNI⟩ : ∃ NI, namesI i = NI := ⟨_, rfl⟩
  rw [hNI] at hn ⊢
  clear hNI
  obtain ⟨kd, ⟨o1, o2, o3, o4, o5, o6, o7⟩, nm, v⟩ := i
  change ∀ w, Calls Tryd.prog 56 #[.agg #[.int .i64 kd, .int .i64 o1, .int .i64 o2, .int .i64 o3, .int .i64 o4, .int .i64 o5, .bool o6, .bool o7, .string nm, .int .u64 v]] w _ at hn
  show Calls Tryd.prog 55 #[.agg #[.int .i64 kd, .int .i64 o1, .int .i64 o2, .int .i64 o3, .int .i64 o4, .int .i64 o5, .bool o6, .bool o7, .string nm, .int .u64 v], .pointer (some ⟨LB, 0, none⟩)] w fun e w' => e = .returned (.bool (NI && ((f nm).getD 0 == 0))) ∧ Nb w w'
  obtain ⟨C, hC⟩ : ∃ C, (f nm).getD 0 = C := ⟨_, rfl⟩
  rw [hC]
  replace hC := Lib.hid hC
  replace hn := Lib.hid hn
  go_enter Tryd.func55, Tryd.ntmps55
  go_upto_region 1 with (fail)
  obtain ⟨W1, hW1⟩ : ∃ W1, w.alloc (.cells #[.int .i64 kd, .int .i64 o1, .int .i64 o2, .int .i64 o3, .int .i64 o4, .int .i64 o5, .bool o6, .bool o7, .string nm, .int .u64 v] 39) = W1 := ⟨_, rfl⟩
  have n1 : Nb w W1 := by rw [← hW1]; exact Below.alloc (Below.refl _ _) (Nat.le_refl _) _
  have b1 : W1.heap[w.heap.size]? = some (.cells #[.int .i64 kd, .int .i64 o1, .int .i64 o2, .int .i64 o3, .int .i64 o4, .int .i64 o5, .bool o6, .bool o7, .string nm, .int .u64 v] 39 (0, 0)) := by rw [← hW1]; exact new_bkc _ _ rfl
  rw [hW1]
  clear hW1
  have c0 := cell_of_row _ _ 0 _ _ _ b1
  have c1 := cell_of_row _ _ 1 _ _ _ b1
  have c2 := cell_of_row _ _ 2 _ _ _ b1
  have c3 := cell_of_row _ _ 3 _ _ _ b1
  have c4 := cell_of_row _ _ 4 _ _ _ b1
  have c5 := cell_of_row _ _ 5 _ _ _ b1
  have c6 := cell_of_row _ _ 6 _ _ _ b1
  have c7 := cell_of_row _ _ 7 _ _ _ b1
  have c8 := cell_of_row _ _ 8 _ _ _ b1
  have c9 := cell_of_row _ _ 9 _ _ _ b1
  have d0 := cell_of_row _ _ 0 _ _ _ (n1.block hb)
  cases NI
  · go_wp2_with (go_at_call 56; refine (hn.out _).mono ?_; rintro r w2 ⟨rfl, hn2⟩)
    go_ret
    exact ⟨rfl, n1.trans hn2⟩
  · go_wp2_with (go_at_call 56; refine (hn.out _).mono ?_; rintro r w2 ⟨rfl, hn2⟩; have c8 := hn2.cell c8; have d0 := hn2.cell d0; have hlk := look1_s ((hm.nb n1).nb hn2) nm; rw [hC.out] at hlk)
    go_ret
    exact ⟨rfl, n1.trans hn2⟩
theorem index_bad (it : Option Addr) (b off cap : Nat) (is : List Itm) (hit : is ≠ [] → it = some ⟨b, off, none⟩) (hcap : is.length ≤ cap) (hl : is.length ≤ 100000) (w : World) (hI : ItAt w b off is) (hp : ∀ i ∈ is, ∀ W, Nb w W → Calls Tryd.prog 29 #[itmV i] W fun e w' => e = .returned (.bool (badI i)) ∧ Nb W w') :
    Calls Tryd.prog 57 #[.slice it is.length cap, .func (.func 29) #[] #[]] w fun r w' => (∃ j : Int, r = .returned (.int .i64 j) ∧ decide (0 ≤ j) = is.any (badI)) ∧ Nb w w' := by
  have hR0 : Hid (Nb w w ∧ (is.take 0).any (badI) = false) := Lib.hid ⟨Nb.refl _, rfl⟩
  have hIh := Lib.hid hI
  have hpp := Lib.hid hp
  have hith := Lib.hid hit
  clear hI hp hit
  go_enter Tryd.func57, Tryd.ntmps57
  go_wp2_with fail
  go_loopw [5, 8] (fun _ si wr => ∃ k : Nat, k ≤ is.length ∧ si = .int .i64 k ∧ Hid (Nb w wr ∧ (is.take k).any (badI) = false)) (fun _ si _ => is.length - (intOf si).toNat)
  case atStart => exact ⟨0, Nat.zero_le _, rfl, hR0⟩
  case round =>
    obtain ⟨k, hk, rfl, hR⟩ := hrel
    clear hR0
    by_cases hlt : k < is.length
    · have hb1 : (0 : Int) ≤ (k : Int) := by omega
      have hb2 : (k : Int) < (is.length : Int) := by omega
      obtain ⟨i, hii⟩ : ∃ i, is[k]? = some i := ⟨_, List.getElem?_eq_getElem hlt⟩
      have hP := fun j u hu => (hIh.out.nb hR.out.1) k i hii j u hu
      obtain rfl := hith.out (by rintro rfl; simp at hlt)
      have hcall := hpp.out i (List.mem_of_getElem? hii) wr hR.out.1
      have htk : (is.take (k + 1)).any (badI) = (badI) i := by rw [List.take_add_one, hii, List.any_append, hR.out.2]; simp
      have hall : (badI) i = true → is.any (badI) = true := fun h => List.any_eq_true.2 ⟨i, List.mem_of_getElem? hii, h⟩
      obtain ⟨pb, hpb⟩ : ∃ pb, (badI) i = pb := ⟨_, rfl⟩
      rw [hpb] at hcall htk hall
      replace htk := Lib.hid htk
      replace hall := Lib.hid hall
      obtain ⟨kd, ⟨o1, o2, o3, o4, o5, o6, o7⟩, nm, v⟩ := i
      have p0 : wr.cell? ⟨b, off + k * 10, none⟩ = some (.int .i64 kd) := hP 0 _ rfl
      have p1 : wr.cell? ⟨b, off + k * 10 + 1, none⟩ = some (.int .i64 o1) := hP 1 _ rfl
      have p2 : wr.cell? ⟨b, off + k * 10 + 2, none⟩ = some (.int .i64 o2) := hP 2 _ rfl
      have p3 : wr.cell? ⟨b, off + k * 10 + 3, none⟩ = some (.int .i64 o3) := hP 3 _ rfl
      have p4 : wr.cell? ⟨b, off + k * 10 + 4, none⟩ = some (.int .i64 o4) := hP 4 _ rfl
      have p5 : wr.cell? ⟨b, off + k * 10 + 5, none⟩ = some (.int .i64 o5) := hP 5 _ rfl
      have p6 : wr.cell? ⟨b, off + k * 10 + 6, none⟩ = some (.bool o6) := hP 6 _ rfl
      have p7 : wr.cell? ⟨b, off + k * 10 + 7, none⟩ = some (.bool o7) := hP 7 _ rfl
      have p8 : wr.cell? ⟨b, off + k * 10 + 8, none⟩ = some (.string nm) := hP 8 _ rfl
      have p9 : wr.cell? ⟨b, off + k * 10 + 9, none⟩ = some (.int .u64 v) := hP 9 _ rfl
      change Calls Tryd.prog 29 #[.agg #[.int .i64 kd, .int .i64 o1, .int .i64 o2, .int .i64 o3, .int .i64 o4, .int .i64 o5, .bool o6, .bool o7, .string nm, .int .u64 v]] wr _ at hcall
      replace hcall := Lib.hid hcall
      clear hP hii hpb
      cases pb
      · go_wp2_with (go_at_call 29; refine hcall.out.mono ?_; rintro r w2 ⟨rfl, hn2⟩)
        exact ⟨⟨k + 1, hlt, by simp, Lib.hid ⟨hR.out.1.trans hn2, htk.out⟩⟩, by simp [intOf]; omega⟩
      · go_wp2_with (go_at_call 29; refine hcall.out.mono ?_; rintro r w2 ⟨rfl, hn2⟩)
        go_ret
        exact ⟨⟨_, rfl, by rw [hall.out trivial]; simp⟩, hR.out.1.trans hn2⟩
    · obtain rfl : k = is.length := by omega
      have hfin := hR.out
      rw [List.take_length] at hfin
      replace hfin := Lib.hid hfin
      clear hR
      go_wp2_with fail
      go_ret
      exact ⟨⟨_, rfl, by rw [hfin.out.2]; rfl⟩, hfin.out.1⟩
theorem contains_bad (it : Option Addr) (b off cap : Nat) (is : List Itm) (hit : is ≠ [] → it = some ⟨b, off, none⟩) (hcap : is.length ≤ cap) (hl : is.length ≤ 100000) (w : World) (hI : ItAt w b off is) (hp : ∀ i ∈ is, ∀ W, Nb w W → Calls Tryd.prog 29 #[itmV i] W fun e w' => e = .returned (.bool (badI i)) ∧ Nb W w') :
    Calls Tryd.prog 28 #[.slice it is.length cap, .func (.func 29) #[] #[]] w fun r w' => r = .returned (.bool (is.any (badI))) ∧ Nb w w' := by
  have hx := Lib.hid (index_bad it b off cap is hit hcap hl w hI hp)
  clear hI hp hit
  go_enter Tryd.func28, Tryd.ntmps28
  go_wp2_with (go_at_call 57; refine hx.out.mono ?_; rintro r w2 ⟨⟨j, rfl, hj⟩, hn2⟩)
  go_ret
  exact ⟨by simp [← hj], hn2⟩
theorem index_lost (it : Option Addr) (b off cap : Nat) (is : List Itm) (hit : is ≠ [] → it = some ⟨b, off, none⟩) (hcap : is.length ≤ cap) (hl : is.length ≤ 100000) (w : World) (hI : ItAt w b off is) (LB : Nat) (f : Bs → Option Int) (hp : ∀ i ∈ is, ∀ W, Nb w W → Calls Tryd.prog 55 #[itmV i, .pointer (some ⟨LB, 0, none⟩)] W fun e w' => e = .returned (.bool (lostI f i)) ∧ Nb W w') :
    Calls Tryd.prog 57 #[.slice it is.length cap, .func (.func 55) #[] #[.pointer (some ⟨LB, 0, none⟩)]] w fun r w' => (∃ j : Int, r = .returned (.int .i64 j) ∧ decide (0 ≤ j) = is.any (lostI f)) ∧ Nb w w' := by
  have hR0 : Hid (Nb w w ∧ (is.take 0).any (lostI f) = false) := Lib.hid ⟨Nb.refl _, rfl⟩
  have hIh := Lib.hid hI
  have hpp := Lib.hid hp
  have hith := Lib.hid hit
  clear hI hp hit
  go_enter Tryd.func57, Tryd.ntmps57
  go_wp2_with fail
  go_loopw [5, 8] (fun _ si wr => ∃ k : Nat, k ≤ is.length ∧ si = .int .i64 k ∧ Hid (Nb w wr ∧ (is.take k).any (lostI f) = false)) (fun _ si _ => is.length - (intOf si).toNat)
  case atStart => exact ⟨0, Nat.zero_le _, rfl, hR0⟩
  case round =>
    obtain ⟨k, hk, rfl, hR⟩ := hrel
    clear hR0
    by_cases hlt : k < is.length
    · have hb1 : (0 : Int) ≤ (k : Int) := by omega
      have hb2 : (k : Int) < (is.length : Int) := by omega
      obtain ⟨i, hii⟩ : ∃ i, is[k]? = some i := ⟨_, List.getElem?_eq_getElem hlt⟩
      have hP := fun j u hu => (hIh.out.nb hR.out.1) k i hii j u hu
      obtain rfl := hith.out (by rintro rfl; simp at hlt)
      have hcall := hpp.out i (List.mem_of_getElem? hii) wr hR.out.1
      have htk : (is.take (k + 1)).any (lostI f) = (lostI f) i := by rw [List.take_add_one, hii, List.any_append, hR.out.2]; simp
      have hall : (lostI f) i = true → is.any (lostI f) = true := fun h => List.any_eq_true.2 ⟨i, List.mem_of_getElem? hii, h⟩
      obtain ⟨pb, hpb⟩ : ∃ pb, (lostI f) i = pb := ⟨_, rfl⟩
      rw [hpb] at hcall htk hall
      replace htk := Lib.hid htk
      replace hall := Lib.hid hall
      obtain ⟨kd, ⟨o1, o2, o3, o4, o5, o6, o7⟩, nm, v⟩ := i
      have p0 : wr.cell? ⟨b, off + k * 10, none⟩ = some (.int .i64 kd) := hP 0 _ rfl
      have p1 : wr.cell? ⟨b, off + k * 10 + 1, none⟩ = some (.int .i64 o1) := hP 1 _ rfl
      have p2 : wr.cell? ⟨b, off + k * 10 + 2, none⟩ = some (.int .i64 o2) := hP 2 _ rfl
      have p3 : wr.cell? ⟨b, off + k * 10 + 3, none⟩ = some (.int .i64 o3) := hP 3 _ rfl
      have p4 : wr.cell? ⟨b, off + k * 10 + 4, none⟩ = some (.int .i64 o4) := hP 4 _ rfl
      have p5 : wr.cell? ⟨b, off + k * 10 + 5, none⟩ = some (.int .i64 o5) := hP 5 _ rfl
      have p6 : wr.cell? ⟨b, off + k * 10 + 6, none⟩ = some (.bool o6) := hP 6 _ rfl
      have p7 : wr.cell? ⟨b, off + k * 10 + 7, none⟩ = some (.bool o7) := hP 7 _ rfl
      have p8 : wr.cell? ⟨b, off + k * 10 + 8, none⟩ = some (.string nm) := hP 8 _ rfl
      have p9 : wr.cell? ⟨b, off + k * 10 + 9, none⟩ = some (.int .u64 v) := hP 9 _ rfl
      change Calls Tryd.prog 55 #[.agg #[.int .i64 kd, .int .i64 o1, .int .i64 o2, .int .i64 o3, .int .i64 o4, .int .i64 o5, .bool o6, .bool o7, .string nm, .int .u64 v], .pointer (some ⟨LB, 0, none⟩)] wr _ at hcall
      replace hcall := Lib.hid hcall
      clear hP hii hpb
      cases pb
      · go_wp2_with (go_at_call 55; refine hcall.out.mono ?_; rintro r w2 ⟨rfl, hn2⟩)
        exact ⟨⟨k + 1, hlt, by simp, Lib.hid ⟨hR.out.1.trans hn2, htk.out⟩⟩, by simp [intOf]; omega⟩
      · go_wp2_with (go_at_call 55; refine hcall.out.mono ?_; rintro r w2 ⟨rfl, hn2⟩)
        go_ret
        exact ⟨⟨_, rfl, by rw [hall.out trivial]; simp⟩, hR.out.1.trans hn2⟩
    · obtain rfl : k = is.length := by omega
      have hfin := hR.out
      rw [List.take_length] at hfin
      replace hfin := Lib.hid hfin
      clear hR
      go_wp2_with fail
      go_ret
      exact ⟨⟨_, rfl, by rw [hfin.out.2]; rfl⟩, hfin.out.1⟩
theorem contains_lost (it : Option Addr) (b off cap : Nat) (is : List Itm) (hit : is ≠ [] → it = some ⟨b, off, none⟩) (hcap : is.length ≤ cap) (hl : is.length ≤ 100000) (w : World) (hI : ItAt w b off is) (LB : Nat) (f : Bs → Option Int) (hp : ∀ i ∈ is, ∀ W, Nb w W → Calls Tryd.prog 55 #[itmV i, .pointer (some ⟨LB, 0, none⟩)] W fun e w' => e = .returned (.bool (lostI f i)) ∧ Nb W w') :
    Calls Tryd.prog 28 #[.slice it is.length cap, .func (.func 55) #[] #[.pointer (some ⟨LB, 0, none⟩)]] w fun r w' => r = .returned (.bool (is.any (lostI f))) ∧ Nb w w' := by
  have hx := Lib.hid (index_lost it b off cap is hit hcap hl w hI LB f hp)
  clear hI hp hit
  go_enter Tryd.func28, Tryd.ntmps28
  go_wp2_with (go_at_call 57; refine hx.out.mono ?_; rintro r w2 ⟨⟨j, rfl, hj⟩, hn2⟩)
  go_ret
  exact ⟨by simp [← hj], hn2⟩
/-- Labels are gone through: none, if one stands twice; else how often each stands. -/
def labG : List Itm → (Bs → Option Int) → Option (Bs → Option Int)
  | [], f => some f
  | i :: r, f => if i.1 = 2 then (if 1 < (f i.2.2.1).getD 0 + 1 then none else labG r (updF f i.2.2.1 ((f i.2.2.1).getD 0 + 1))) else labG r f
def labI (is : List Itm) : Bool := match labG is (fun _ => none) with
  | none => false
  | some f => !is.any (lostI f)
def F01 (f : Bs → Option Int) : Prop := ∀ nm, 0 ≤ (f nm).getD 0 ∧ (f nm).getD 0 ≤ 1
theorem F01.upd {f : Bs → Option Int} (h : F01 f) (nm : Bs) (hc : ¬ 1 < (f nm).getD 0 + 1) : F01 (updF f nm ((f nm).getD 0 + 1)) := by
  intro t
  by_cases e : nm = t
  · subst e
    rw [updF_self]
    have := h nm
    simp only [Option.getD_some]
    omega
  · rw [updF_ne e]; exact h t
theorem labelled_any (it : Option Addr) (b off cap : Nat) (is : List Itm) (hit : is ≠ [] → it = some ⟨b, off, none⟩) (hcap : is.length ≤ cap) (hl : is.length ≤ 100000) (w : World) (hI : ItAt w b off is) :
    Calls Tryd.prog 27 #[.slice it is.length cap] w fun r w' => r = .returned (.bool (labI is)) ∧ Nb w w' := by
  have hmm := @run_makeMap Tryd.prog
  have hIh := Lib.hid hI
  have hith := Lib.hid hit
  have hmf : ∀ (fn : Fn) (first cap : Array Value) (w : World), (Instr.makeFunc fn first cap).run Tryd.prog w = .ok (.func fn first cap) w := fun _ _ _ _ => rfl
  clear hI hit
  go_enter Tryd.func27, Tryd.ntmps27
  go_upto_region 2 with (fail)
  obtain ⟨W1, hW1⟩ : ∃ W1, (w.alloc (.map #[] 0)).alloc (.cells #[.map (some w.heap.size)] 99) = W1 := ⟨_, rfl⟩
  obtain ⟨MB, hMB⟩ : ∃ MB, w.heap.size = MB := ⟨_, rfl⟩
  have zA : (w.alloc (.map #[] 0)).heap.size = MB + 1 := by rw [World.size_alloc, hMB]
  have n1 : Nb w W1 := by rw [← hW1]; exact ((Nb.refl w).alloc _).alloc _
  have m1 : SMap W1 MB (fun _ => none) := by
    rw [← hW1]
    refine SMap.kept (w := w.alloc (.map #[] 0)) ?_ (fun o ho => (Below.heap_alloc _ _ _ (Array.getElem?_eq_some_iff.1 ho).1).trans ho)
    rw [← hMB]; exact SMap.made w
  have s1 : W1.heap[MB + 1]? = some (.cells #[.map (some MB)] 99 (0, 0)) := by rw [← hW1, ← zA, hMB]; exact new_bkc _ _ rfl
  rw [hW1, hMB]
  replace hMB := Lib.hid hMB
  clear hW1 zA hmm
  have hR0 : Hid (Nb w W1 ∧ W1.heap[MB + 1]? = some (.cells #[.map (some MB)] 99 (0, 0)) ∧ ∃ f, SMap W1 MB f ∧ F01 f ∧ labG is (fun _ => none) = labG (is.drop 0) f) := Lib.hid ⟨n1, s1, _, m1, fun _ => ⟨by simp, by simp⟩, rfl⟩
  clear n1 s1 m1
  go_wp2_with fail
  go_loopw [5, 9] (fun _ si wr => ∃ k : Nat, k ≤ is.length ∧ si = .int .i64 k ∧ Hid (Nb w wr ∧ wr.heap[MB + 1]? = some (.cells #[.map (some MB)] 99 (0, 0)) ∧ ∃ f, SMap wr MB f ∧ F01 f ∧ labG is (fun _ => none) = labG (is.drop k) f)) (fun _ si _ => is.length - (intOf si).toNat)
  case atStart => exact ⟨0, Nat.zero_le _, rfl, hR0⟩
  case round =>
    obtain ⟨k, hk, rfl, hR⟩ := hrel
    clear hR0
    by_cases hlt : k < is.length
    · have hb1 : (0 : Int) ≤ (k : Int) := by omega
      have hb2 : (k : Int) < (is.length : Int) := by omega
      obtain ⟨i, hii⟩ : ∃ i, is[k]? = some i := ⟨_, List.getElem?_eq_getElem hlt⟩
      have hP := fun j u hu => (hIh.out.nb hR.out.1) k i hii j u hu
      obtain rfl := hith.out (by rintro rfl; simp at hlt)
      obtain ⟨hN, hS, f, hm, h01, hlab⟩ := hR.out
      have hdr : is.drop k = i :: is.drop (k + 1) := by
        have h1 := (List.getElem?_eq_some_iff.1 hii).2
        rw [← h1]
        exact (List.getElem_cons_drop hlt).symm
      rw [hdr] at hlab
      obtain ⟨kd, ⟨o1, o2, o3, o4, o5, o6, o7⟩, nm, v⟩ := i
      have p0 : wr.cell? ⟨b, off + k * 10, none⟩ = some (.int .i64 kd) := hP 0 _ rfl
      have p1 : wr.cell? ⟨b, off + k * 10 + 1, none⟩ = some (.int .i64 o1) := hP 1 _ rfl
      have p2 : wr.cell? ⟨b, off + k * 10 + 2, none⟩ = some (.int .i64 o2) := hP 2 _ rfl
      have p3 : wr.cell? ⟨b, off + k * 10 + 3, none⟩ = some (.int .i64 o3) := hP 3 _ rfl
      have p4 : wr.cell? ⟨b, off + k * 10 + 4, none⟩ = some (.int .i64 o4) := hP 4 _ rfl
      have p5 : wr.cell? ⟨b, off + k * 10 + 5, none⟩ = some (.int .i64 o5) := hP 5 _ rfl
      have p6 : wr.cell? ⟨b, off + k * 10 + 6, none⟩ = some (.bool o6) := hP 6 _ rfl
      have p7 : wr.cell? ⟨b, off + k * 10 + 7, none⟩ = some (.bool o7) := hP 7 _ rfl
      have p8 : wr.cell? ⟨b, off + k * 10 + 8, none⟩ = some (.string nm) := hP 8 _ rfl
      have p9 : wr.cell? ⟨b, off + k * 10 + 9, none⟩ = some (.int .u64 v) := hP 9 _ rfl
      have q1 := cell_of_row _ _ 0 _ _ _ hS
      have hlS : MB + 1 < wr.heap.size := lt_bkc hS
      obtain ⟨WA, hWA⟩ : ∃ WA, wr.alloc (.cells #[.int .i64 kd, .int .i64 o1, .int .i64 o2, .int .i64 o3, .int .i64 o4, .int .i64 o5, .bool o6, .bool o7, .string nm, .int .u64 v] 39) = WA := ⟨_, rfl⟩
      have nA : Nb wr WA := by rw [← hWA]; exact Below.alloc (Below.refl _ _) (Nat.le_refl _) _
      have bA : WA.heap[wr.heap.size]? = some (.cells #[.int .i64 kd, .int .i64 o1, .int .i64 o2, .int .i64 o3, .int .i64 o4, .int .i64 o5, .bool o6, .bool o7, .string nm, .int .u64 v] 39 (0, 0)) := by rw [← hWA]; exact new_bkc _ _ rfl
      have hlab' : labG is (fun _ => none) = if kd = 2 then (if 1 < (f nm).getD 0 + 1 then none else labG (is.drop (k + 1)) (updF f nm ((f nm).getD 0 + 1))) else labG (is.drop (k + 1)) f := hlab
      replace hlab' := Lib.hid hlab'
      clear hP hii hdr hR hlab
      go_upto_region 5 with (fail)
      clear hWA p0 p1 p2 p3 p4 p5 p6 p7 p8 p9
      have i0 := cell_of_row _ _ 0 _ _ _ bA
      have i8 := cell_of_row _ _ 8 _ _ _ bA
      have q1 := nA.cell q1
      cases h2 : (kd == 2)
      · have h2' : (kd != 2) = true := by rw [bne, h2]; rfl
        have hl2 := hlab'.out
        rw [if_neg (by simpa using h2)] at hl2
        have hfin : Hid (Nb w WA ∧ WA.heap[MB + 1]? = some (.cells #[.map (some MB)] 99 (0, 0)) ∧ ∃ f, SMap WA MB f ∧ F01 f ∧ labG is (fun _ => none) = labG (is.drop (k + 1)) f) := Lib.hid ⟨hN.trans nA, nA.block hS, f, hm.nb nA, h01, hl2⟩
        clear hl2 hlab' h01 hm hN nA
        go_wp2_with fail
        go_roundw
        case rel => exact ⟨k + 1, hlt, by simp, hfin⟩
        case measure => simp [intOf]; omega
      · have h2' : (kd != 2) = false := by rw [bne, h2]; rfl
        have hl2 := hlab'.out
        rw [if_pos (by simpa using h2)] at hl2
        obtain ⟨C, hC⟩ : ∃ C, (f nm).getD 0 = C := ⟨_, rfl⟩
        have h01c := h01 nm
        rw [hC] at hl2 h01c
        have e1 : IntKind.i64.wrap (C + 1) = C + 1 := by rw [IntKind.wrap_i64]; omega
        have hlk := look1_s (hm.nb nA) nm
        rw [hC] at hlk
        replace hl2 := Lib.hid hl2
        go_upto_region 7 with (refine wpList_put_s rfl (.tmp 16) (.tmp 18) (.tmp 20) rfl (hm.nb nA) (n := C + 1) rfl rfl rfl ?_; intro w3 hm3 hg3)
        have hk3 : ∀ j o, j ≠ MB → WA.heap[j]? = some o → w3.heap[j]? = some o := fun j o hj hA => (hg3.block j (Array.getElem?_eq_some_iff.1 hA).1 (fun e => hj (by simpa using e))).trans hA
        have hN3 : Nb w w3 := Below.grown (hN.trans nA) hg3 (by have := hN.size; have := nA.size; omega) (fun r e => by cases e; have := hMB.out; omega)
        have hS3 := hk3 _ _ (by omega) (nA.block hS)
        have bI3 := hk3 _ _ (by omega) bA
        have i8 := cell_of_row _ _ 8 _ _ _ bI3
        have q1 := cell_of_row _ _ 0 _ _ _ hS3
        have hlk := look1_s hm3 nm
        rw [updF_self] at hlk
        simp only [Option.getD_some] at hlk
        by_cases hC1 : 1 < C + 1
        · have h1t : decide (C + 1 > 1) = true := by simpa using hC1
          have hl3 := hl2.out
          rw [if_pos hC1] at hl3
          have hres : Hid (labI is = false) := Lib.hid (by unfold labI; rw [hl3])
          clear hl2 hl3 hlab' h01 hm hm3 hg3 hk3
          go_wp2_with fail
          go_ret
          exact ⟨by rw [hres.out] <;> rfl, hN3⟩
        · have h1f : decide (C + 1 > 1) = false := by simpa using hC1
          have hl3 := hl2.out
          rw [if_neg hC1] at hl3
          have hfin : Hid (Nb w w3 ∧ w3.heap[MB + 1]? = some (.cells #[.map (some MB)] 99 (0, 0)) ∧ ∃ f, SMap w3 MB f ∧ F01 f ∧ labG is (fun _ => none) = labG (is.drop (k + 1)) f) := Lib.hid ⟨hN3, hS3, _, hm3, by rw [← hC]; exact h01.upd nm (by rw [hC]; exact hC1), hl3⟩
          clear hl2 hl3 hlab' h01 hm hm3 hg3 hk3 hN3
          go_wp2_with fail
          go_roundw
          case rel => exact ⟨k + 1, hlt, by simp, hfin⟩
          case measure => simp [intOf]; omega
    · obtain rfl : k = is.length := by omega
      obtain ⟨hN, hS, f, hm, h01, hlab⟩ := hR.out
      rw [List.drop_length] at hlab
      have hres : Hid (labI is = !is.any (lostI f)) := Lib.hid (by unfold labI; rw [hlab]; rfl)
      have hcon := contains_lost it b off cap is hith.out hcap hl wr (hIh.out.nb hN) (MB + 1) f (fun i _ W hW => lost_any (MB + 1) MB f i W (hW.block hS) (hm.nb hW))
      have q1 := cell_of_row _ _ 0 _ _ _ hS
      replace hcon := Lib.hid hcon
      clear hlab h01 hm hR
      go_wp2_with (go_at_call 28; refine hcon.out.mono ?_; rintro r w2 ⟨rfl, hn2⟩)
      go_ret
      exact ⟨by rw [hres.out] <;> rfl, hN.trans hn2⟩
/-- What is wrong with items and a base. -/
def wrongI (is : List Itm) (base : Int) : Int := if base % 4 ≠ 0 then 2 else if 1073741824 < base then 2 else if labI is = false then 190 else if is.any badI = true then 20 else 0
theorem wrong_any (it : Option Addr) (b off cap : Nat) (is : List Itm) (base : Int) (hb0 : 0 ≤ base) (hb1 : base < 18446744073709551616) (hit : is ≠ [] → it = some ⟨b, off, none⟩) (hcap : is.length ≤ cap) (hl : is.length ≤ 100000) (hv : ∀ i ∈ is, ImOk i.2.1) (w : World) (hC : Cod w) (hI : ItAt w b off is) :
    Calls Tryd.prog 12 #[.slice it is.length cap, .int .u64 base] w fun r w' => r = .returned (.int .i64 (wrongI is base)) ∧ Nb w w' := by
  have hlab := labelled_any it b off cap is hit hcap hl w hI
  have hcon := fun W (hW : Nb w W) => contains_bad it b off cap is hit hcap hl W (hI.nb hW) (fun i hi V hV => bad_any i (hv i hi) V ((hC.of_nb hW).of_nb hV))
  unfold wrongI
  obtain ⟨LI, hLI⟩ : ∃ LI, labI is = LI := ⟨_, rfl⟩
  obtain ⟨BI, hBI⟩ : ∃ BI, is.any badI = BI := ⟨_, rfl⟩
  rw [hLI] at hlab ⊢
  rw [hBI] at hcon ⊢
  replace hlab := Lib.hid hlab
  replace hcon := Lib.hid hcon
  clear hLI hBI hv hI hit
  by_cases h4 : base % 4 = 0
  case neg =>
    have e4 : (base % 4 == 0) = false := beq_false_of_ne h4
    have e4' : (base % 4 != 0) = true := by rw [bne, e4]; rfl
    rw [if_pos h4]
    clear h4
    go_enter Tryd.func12, Tryd.ntmps12
    go_wp2_with fail
    go_ret
    exact ⟨rfl, Nb.refl _⟩
  have e4 : (base % 4 == 0) = true := by rw [h4]; rfl
  have e4' : (base % 4 != 0) = false := by rw [bne, e4]; rfl
  rw [if_neg (by simpa using h4)]
  clear h4
  by_cases hh : 1073741824 < base
  case pos =>
    have eh : decide (base > 1073741824) = true := by simpa using hh
    rw [if_pos hh]
    clear hh
    go_enter Tryd.func12, Tryd.ntmps12
    go_wp2_with fail
    go_ret
    exact ⟨rfl, Nb.refl _⟩
  have eh : decide (base > 1073741824) = false := by simpa using hh
  rw [if_neg hh]
  clear hh
  cases LI
  · rw [if_pos rfl]
    go_enter Tryd.func12, Tryd.ntmps12
    go_wp2_with (go_at_call 27; refine hlab.out.mono ?_; rintro r w2 ⟨rfl, hn2⟩)
    go_ret
    exact ⟨rfl, hn2⟩
  · rw [if_neg (by simp)]
    cases BI
    · rw [if_neg (by simp)]
      go_enter Tryd.func12, Tryd.ntmps12
      go_wp2_with (first | (go_at_call 27; refine hlab.out.mono ?_; rintro r w2 ⟨rfl, hn2⟩; have hcon2 := hcon.out w2 hn2) | (go_at_call 28; refine hcon2.mono ?_; rintro r w3 ⟨rfl, hn3⟩))
      go_ret
      exact ⟨rfl, hn2.trans hn3⟩
    · rw [if_pos rfl]
      go_enter Tryd.func12, Tryd.ntmps12
      go_wp2_with (first | (go_at_call 27; refine hlab.out.mono ?_; rintro r w2 ⟨rfl, hn2⟩; have hcon2 := hcon.out w2 hn2) | (go_at_call 28; refine hcon2.mono ?_; rintro r w3 ⟨rfl, hn3⟩))
      go_ret
      exact ⟨rfl, hn2.trans hn3⟩
end Go.Proofs.YtnooabgdcfegeaaDoor
