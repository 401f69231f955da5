/-
  Proved here: a map of integers by name: what is found there, and what is put there; the last places of names. Conditions: the memory holds the names.
-/
import Derived.Test.YtchcfjlkgnlnoaaPb
import Derived.Maps.OwnSet
namespace Go.Proofs.Ytchcfjlkgnlnoaa
open Go.RowKit Go.ChangeMaps
set_option linter.unusedVariables false
set_option linter.unusedSimpArgs false
set_option maxRecDepth 100000
set_option maxHeartbeats 4000000
/-- A map tells f of names. -/
def SMap (w : World) (mb : Nat) (f : Bs → Option Int) : Prop :=
  ∃ es clock, w.heap[mb]? = some (.map es clock) ∧ (es.toList.map (·.key)).Nodup ∧ (∀ e ∈ es.toList, ∃ s n, e.key = sV s ∧ e.val = .int .i64 n ∧ f s = some n) ∧ ∀ s n, f s = some n → ∃ e ∈ es.toList, e.key = sV s
theorem sV_inj {s t : Bs} (h : sV s = sV t) : s = t := by
  simp only [sV, Value.string.injEq, ByteArray.mk.injEq] at h
  simpa using congrArg Array.toList h
theorem SMap.made (w : World) : SMap (w.alloc (.map #[] 0)) w.heap.size (fun _ => none) :=
  ⟨#[], 0, (MapKept.heap_alloc w _).1, by simp, by simp, by simp⟩
theorem SMap.kept {w w' : World} {mb : Nat} {f : Bs → Option Int} (h : SMap w mb f) (hb : ∀ o, w.heap[mb]? = some o → w'.heap[mb]? = some o) : SMap w' mb f := by
  obtain ⟨es, clock, hm, he⟩ := h
  exact ⟨es, clock, hb _ hm, he⟩
theorem SMap.nb {w w' : World} {mb : Nat} {f : Bs → Option Int} (h : SMap w mb f) (k : Nb w w') : SMap w' mb f := h.kept fun o ho => k.block ho
theorem isKey_s (s : Bs) : MapKept.IsKey .string (sV s) := by simp [MapKept.IsKey]
theorem SMap.find {w : World} {mb : Nat} {f : Bs → Option Int} {es : Array MapEntry} (he : ∀ e ∈ es.toList, ∃ s n, e.key = sV s ∧ e.val = .int .i64 n ∧ f s = some n) (hf : ∀ s n, f s = some n → ∃ e ∈ es.toList, e.key = sV s) (s : Bs) :
    (Instr.findNow .string (sV s) es.toList 0 = some none ∧ f s = none ∧ ∀ x ∈ es.toList, x.key ≠ sV s) ∨ ∃ (j : Nat) (e : MapEntry) (n : Int), Instr.findNow .string (sV s) es.toList 0 = some (some (j, e.val)) ∧ es.toList[j]? = some e ∧ e.key = sV s ∧ e.val = .int .i64 n ∧ f s = some n := by
  rcases MapKept.findNow_spec (isKey_s s) es.toList 0 (fun x hx => by obtain ⟨t, n, hk, -, -⟩ := he x hx; rw [hk]; exact isKey_s t) with ⟨h1, h2⟩ | ⟨j, e, h1, h2, h3⟩
  · refine .inl ⟨h1, ?_, h2⟩
    cases hq : f s with
    | none => rfl
    | some n =>
      obtain ⟨e, hm, hk⟩ := hf s n hq
      exact absurd hk (h2 e hm)
  · obtain ⟨t, n, hk, hv, hn⟩ := he e (List.mem_of_getElem? h2)
    obtain rfl := sV_inj (hk.symm.trans h3)
    exact .inr ⟨j, e, n, by rw [h1, Nat.zero_add], h2, h3, hv, hn⟩
theorem look_s {w : World} {mb : Nat} {f : Bs → Option Int} (h : SMap w mb f) (s : Bs) :
    (Instr.lookup 98 (.map (some mb)) (sV s) true).run Try.prog w = .ok (.tuple #[.int .i64 ((f s).getD 0), .bool (f s).isSome]) w := by
  obtain ⟨es, clock, hm, -, he, hf⟩ := h
  have hz : (zeroValue 3).run Try.prog w = .ok (.int .i64 0) w := by kernel_rfl
  have hc : (Instr.checkKey es.isEmpty 10000 9 (sV s)).run Try.prog w = .ok () w := MapKept.run_checkKey Try.underlying9 (isKey_s s) _ 9999
  rcases SMap.find (w := w) (mb := mb) he hf s with ⟨h1, h2, -⟩ | ⟨j, e, n, h1, -, -, hv, hn⟩
  · have h3 := MapKept.run_findKey (P := Try.prog) (w := w) Try.underlying9 h1
    rw [h2]
    simp only [Instr.lookup, Sem.run_bind, run_underlying Try.underlying98, MapKept.run_getObj_map hm, hc, h3, hz, Result.andThen_ok, Sem.run_pure]
    rfl
  · have h3 := MapKept.run_findKey (P := Try.prog) (w := w) Try.underlying9 h1
    rw [hn]
    simp only [Instr.lookup, Sem.run_bind, run_underlying Try.underlying98, MapKept.run_getObj_map hm, hc, h3, hz, Result.andThen_ok, Sem.run_pure, hv]
    rfl
def updF (f : Bs → Option Int) (s : Bs) (n : Int) : Bs → Option Int := fun t => if s = t then some n else f t
theorem updF_self (f : Bs → Option Int) (s : Bs) (n : Int) : updF f s n s = some n := by unfold updF; rw [if_pos rfl]
theorem updF_ne {f : Bs → Option Int} {s t : Bs} {n : Int} (h : ¬ s = t) : updF f s n t = f t := by unfold updF; rw [if_neg h]
theorem keyThat_s (s : Bs) (w : World) : (Instr.keyThatStays (sV s) (sV s)).run Try.prog w = .ok (sV s) w := by
  have h : Instr.sameBits 10000 (sV s) (sV s) = true := by
    show Instr.sameBits 10000 (.string ⟨s.toArray⟩) (.string ⟨s.toArray⟩) = true
    generalize (⟨s.toArray⟩ : ByteArray) = x
    show (x == x) = true
    exact (MapKept.bytes_beq x x).2 rfl
  simp [Instr.keyThatStays, h]
theorem put_s {w : World} {mb : Nat} {f : Bs → Option Int} (h : SMap w mb f) (s : Bs) (n : Int) :
    ∃ w', (Instr.mapUpdate 98 (.map (some mb)) (sV s) (.int .i64 n)).run Try.prog w = .ok () w' ∧ SMap w' mb (updF f s n) ∧ w.grownBy w' (some mb) := by
  obtain ⟨es, clock, hm, hu, he, hf⟩ := h
  have hc : (Instr.checkKey false 10000 9 (sV s)).run Try.prog w = .ok () w := MapKept.run_checkKey Try.underlying9 (isKey_s s) _ 9999
  rcases SMap.find (w := w) (mb := mb) he hf s with ⟨h1, h2, h4⟩ | ⟨j, e, m, h1, h2, hk, hv, hn⟩
  · have h3 := MapKept.run_findKey (P := Try.prog) (w := w) Try.underlying9 h1
    refine ⟨setBlock w mb (.map (es.push { key := sV s, val := .int .i64 n, born := clock }) (clock + 1)), ?_, ⟨_, _, heap_setBlock_same hm _, ?_, ?_, ?_⟩, ⟨rfl, rfl, rfl, by simp [setBlock], fun i _ hi => heap_setBlock_other hm _ (fun e => hi (by rw [e]))⟩⟩
    · simp only [Instr.mapUpdate, Sem.run_bind, run_underlying Try.underlying98, MapKept.run_getObj_map hm, hc, h3, MapKept.run_setObj_map _ hm, Result.andThen_ok]
      rfl
    · rw [Array.toList_push, List.map_append, List.nodup_append]
      refine ⟨hu, by simp, ?_⟩
      intro a ha b hb
      obtain ⟨x, hx, rfl⟩ := List.mem_map.1 ha
      simp only [List.map_cons, List.map_nil, List.mem_singleton] at hb
      subst hb
      exact h4 x hx
    · intro x hx
      simp only [Array.toList_push, List.mem_append, List.mem_singleton] at hx
      rcases hx with hx | rfl
      · obtain ⟨t, n', a, b, c⟩ := he x hx
        refine ⟨t, n', a, b, ?_⟩
        rw [updF_ne (fun e => h4 x hx (by rw [a, e]))]
        exact c
      · exact ⟨s, n, rfl, rfl, updF_self ..⟩
    · intro t n' ht
      simp only [Array.toList_push, List.mem_append, List.mem_singleton]
      by_cases e : s = t
      · exact ⟨_, .inr rfl, by rw [e]⟩
      · rw [updF_ne e] at ht
        obtain ⟨x, hx, hk⟩ := hf t n' ht
        exact ⟨x, .inl hx, hk⟩
  · have h3 := MapKept.run_findKey (P := Try.prog) (w := w) Try.underlying9 h1
    have hj : es[j]? = some e := by simpa using h2
    have hkeys : ((es.modify j fun e => { e with key := sV s, val := .int .i64 n }).toList.map (·.key)) = es.toList.map (·.key) := by
      apply List.ext_getElem?
      intro i
      simp only [List.getElem?_map, Array.getElem?_toList, Array.getElem?_modify]
      split
      · rename_i hi
        subst hi
        rw [hj]
        simp [hk]
      · rfl
    refine ⟨setBlock w mb (.map (es.modify j fun e => { e with key := sV s, val := .int .i64 n }) clock), ?_, ⟨_, _, heap_setBlock_same hm _, by rw [hkeys]; exact hu, ?_, ?_⟩, ⟨rfl, rfl, rfl, by simp [setBlock], fun i _ hi => heap_setBlock_other hm _ (fun e => hi (by rw [e]))⟩⟩
    · simp only [Instr.mapUpdate, Sem.run_bind, run_underlying Try.underlying98, MapKept.run_getObj_map hm, hc, h3, hj, Option.map_some, Option.getD_some, hk, keyThat_s, MapKept.run_setObj_map _ hm, Result.andThen_ok]
      rfl
    · intro x hx
      obtain ⟨i, hi⟩ := List.getElem?_of_mem hx
      simp only [Array.getElem?_toList, Array.getElem?_modify] at hi
      split at hi
      · rw [Option.map_eq_some_iff] at hi
        obtain ⟨y, -, rfl⟩ := hi
        exact ⟨s, n, rfl, rfl, updF_self ..⟩
      · rename_i hij
        have hmem : x ∈ es.toList := by rw [← Array.getElem?_toList] at hi; exact List.mem_of_getElem? hi
        obtain ⟨t, n', a, b, c⟩ := he x hmem
        refine ⟨t, n', a, b, ?_⟩
        rw [updF_ne, c]
        intro e'
        subst e'
        have h5 : (es.toList.map (·.key))[i]? = some (sV s) := by simp [hi, a]
        have h6 : (es.toList.map (·.key))[j]? = some (sV s) := by simp [hj, hk]
        have hi2 := (List.getElem?_eq_some_iff.1 h5).1
        have hj2 := (List.getElem?_eq_some_iff.1 h6).1
        exact hij ((List.getElem?_inj hj2 hu).1 (h6.trans h5.symm))
    · intro t n' ht
      have : sV t ∈ (es.modify j fun e => { e with key := sV s, val := .int .i64 n }).toList.map (·.key) := by
        rw [hkeys]
        by_cases e : s = t
        · subst e
          exact List.mem_map.2 ⟨_, List.mem_of_getElem? h2, hk⟩
        · rw [updF_ne e] at ht
          obtain ⟨x, hx, hk⟩ := hf t n' ht
          exact List.mem_map.2 ⟨x, hx, hk⟩
      obtain ⟨x, hx, hk⟩ := List.mem_map.1 this
      exact ⟨x, hx, hk⟩
theorem wpList_look_s {w : World} {ops : Array Oper} {rest : List Oper} {o : Oper} {a : Act} {Q' : Exit → Act → World → Prop} (hg : o.guard = none) (m x : Operand) (hop : o.op = Op.lookup 98 m x true)
    {mb : Nat} {f : Bs → Option Int} (h : SMap w mb f) {s : Bs} (hm : a.eval m = .map (some mb)) (hx : a.eval x = sV s) {r : Int} {there : Bool} (hr : (f s).getD 0 = r) (ht : (f s).isSome = there)
    (h0 : wpList Try.prog ops Q' rest (a.put o.dst (.tuple #[.int .i64 r, .bool there])) w) : wpList Try.prog ops Q' (o :: rest) a w := by
  refine wpList_plain hg fun K' hK' => ?_
  have hrun := look_s h s
  rw [hr, ht] at hrun
  unfold Oper.wp
  simp [execOp, hop, hm, hx, hrun, Result.andThen]
  exact hK' _ _ h0
theorem wpList_put_s {w : World} {ops : Array Oper} {rest : List Oper} {o : Oper} {a : Act} {Q' : Exit → Act → World → Prop} (hg : o.guard = none) (m x y : Operand) (hop : o.op = Op.mapUpdate 98 m x y)
    {mb : Nat} {f : Bs → Option Int} (h : SMap w mb f) {s : Bs} {n : Int} (hm : a.eval m = .map (some mb)) (hx : a.eval x = sV s) (hy : a.eval y = .int .i64 n)
    (hK : ∀ w', SMap w' mb (updF f s n) → w.grownBy w' (some mb) → wpList Try.prog ops Q' rest (a.put o.dst undef) w') : wpList Try.prog ops Q' (o :: rest) a w := by
  refine wpList_plain hg fun K' hK' => ?_
  obtain ⟨w', hrun, r1, r2⟩ := put_s h s n
  unfold Oper.wp
  simp [execOp, hop, hm, hx, hy, hrun, Result.andThen]
  exact hK' _ _ (hK w' r1 r2)
/-- A slice of names. -/
abbrev NmsR (w : World) (v : Value) (l : List Bs) : Prop := RowS w 1 v (l.map fun s => [sV s])
theorem lastPlaces_any (W0 : World) (sv : Value) (l : List Bs) (hl : NmsR W0 sv l) (w : World) (hw : Nb W0 w) :
    Calls Try.prog 43 #[sv] w fun r w' => ∃ mb, r = .returned (.map (some mb)) ∧ Nb w w' ∧ SMap w' mb (lastO l) ∧ w.heap.size ≤ mb := by
  obtain ⟨A, cap, rfl, hcap, hlen, hA⟩ := hl.head
  rw [List.length_map] at hcap hlen hl ⊢
  obtain ⟨N, hN⟩ : ∃ N, l.length = N := ⟨_, rfl⟩
  have hNh := Lib.hid hN
  rw [hN] at hcap hlen hl ⊢
  clear hN
  have hX := Lib.hid hl
  clear hl
  have hmm := @run_makeMap Try.prog
  go_enter Try.func43, Try.ntmps43
  go_upto_region 2 with (fail)
  obtain ⟨W1, hW1⟩ : ∃ W1, w.alloc (.map #[] 0) = W1 := ⟨_, rfl⟩
  have n1 : Nb w W1 := by rw [← hW1]; exact (Nb.refl w).alloc _
  have m1 : SMap W1 w.heap.size (fun _ => none) := by rw [← hW1]; exact SMap.made w
  rw [hW1]
  clear hW1
  obtain ⟨mb, hmb⟩ : ∃ mb, w.heap.size = mb := ⟨_, rfl⟩
  rw [hmb] at m1 ⊢
  replace hmb := Lib.hid hmb
  have hR0 : Hid (Nb w W1 ∧ SMap W1 mb (lastO (l.take 0))) := Lib.hid ⟨n1, m1⟩
  clear m1 n1 hmm
  go_wp2_with fail
  go_loopw [9] (fun si wr => ∃ i : Nat, i ≤ N ∧ si = .int .i64 i ∧ Hid (Nb w wr ∧ SMap wr mb (lastO (l.take i)))) (fun si _ => N - (intOf si).toNat)
  case atStart => exact ⟨0, Nat.zero_le _, rfl, hR0⟩
  case round =>
    obtain ⟨i, hi, rfl, hR⟩ := hrel
    clear hR0
    by_cases hlt : i < N
    · have hlt2 : (i : Int) < (N : Int) := by omega
      obtain ⟨x, hx⟩ : ∃ x, l[i]? = some x := ⟨_, List.getElem?_eq_getElem (by rw [hNh.out]; exact hlt)⟩
      obtain ⟨b', o', rfl, hrow⟩ := hX.out.at_ (i := i) (r := [sV x]) (by rw [List.getElem?_map, hx]; rfl)
      have c0 := (hw.trans hR.out.1).cell (hrow 0 _ rfl)
      simp only [Nat.mul_one, Nat.add_zero] at c0
      have hlast : ∀ t, lastO (l.take (i + 1)) t = if x = t then some (i : Int) else lastO (l.take i) t := fun t => by
        rw [List.take_add_one, hx, Option.toList_some, lastO_snoc, List.length_take, Nat.min_eq_left (by rw [hNh.out]; omega)]
      replace hlast := Lib.hid hlast
      clear hrow hx
      go_upto_region 5 with (fail)
      go_upto_region 6 with (refine wpList_put_s rfl (.tmp 14) (.tmp 15) (.tmp 16) rfl hR.out.2 rfl rfl rfl ?_; intro w3 hm3 hg3)
      have hS : Hid (Nb w w3 ∧ SMap w3 mb (lastO (l.take (i + 1)))) := Lib.hid ⟨Below.grown hR.out.1 hg3 (by have := hR.out.1.size; omega) (fun k hk => by simp only [Option.some.injEq] at hk; have := hmb.out; omega), by
        have : lastO (l.take (i + 1)) = updF (lastO (l.take i)) x (i : Int) := funext hlast.out
        rw [this]; exact hm3⟩
      clear hR hm3 hg3 hlast c0
      go_wp2_with fail
      exact ⟨⟨i + 1, by omega, by simp, hS⟩, by simp [intOf] <;> omega⟩
    · obtain rfl : i = N := by omega
      have hfin : Hid (Nb w wr ∧ SMap wr mb (lastO l)) := Lib.hid (by have := hR.out; rw [List.take_of_length_le (by rw [hNh.out]; exact Nat.le_refl _)] at this; exact this)
      clear hR
      go_wp2_with fail
      go_ret
      exact ⟨mb, rfl, hfin.out.1, hfin.out.2, by rw [hmb.out]; exact Nat.le_refl _⟩
end Go.Proofs.Ytchcfjlkgnlnoaa
