/-
  Proved here: maps of integers and of addresses by name: what is found there, and what is put there. Conditions: the memory holds them.
-/
import Derived.Test.YtnooabgdcfegeaaDoorSbg
import Derived.Maps.OwnSet
import Derived.Maps.OwnIn
import Derived.LaidEql
import Derived.WideKeyRuns
namespace Go.Proofs.YtnooabgdcfegeaaDoor
open Go.RowKit Go.ChangeMaps
set_option linter.unusedVariables false
set_option linter.unusedSimpArgs false
set_option maxRecDepth 100000
set_option maxHeartbeats 4000000
abbrev Bs := ByteArray
abbrev sV (s : Bs) : Value := .string s
theorem sV_inj {s t : Bs} (h : sV s = sV t) : s = t := by
  cases h
  rfl
theorem isKey_s (s : Bs) : MapKept.IsKey .string (sV s) := by simp [MapKept.IsKey]
theorem keyThat_s (s : Bs) (w : World) : (Instr.keyThatStays (sV s) (sV s)).run Tryd.prog w = .ok (sV s) w := by
  have h : Instr.sameBits 10000 (sV s) (sV s) = true := by
    show (s == s) = true
    exact (MapKept.bytes_beq s s).2 rfl
  simp [Instr.keyThatStays, h]
def updF (f : Bs → Option Int) (s : Bs) (n : Int) : Bs → Option Int := fun t => if s = t then some n else f t
theorem updF_self (f : Bs → Option Int) (s : Bs) (n : Int) : updF f s n s = some n := by unfold updF; rw [if_pos rfl]
theorem updF_ne {f : Bs → Option Int} {s t : Bs} {n : Int} (h : ¬ s = t) : updF f s n t = f t := by unfold updF; rw [if_neg h]
/-- A map tells f of names. -/
def SMap (w : World) (mb : Nat) (f : Bs → Option Int) : Prop :=
  ∃ es clock, w.heap[mb]? = some (.map es clock) ∧ (es.toList.map (·.key)).Nodup ∧ (∀ e ∈ es.toList, ∃ s n, e.key = sV s ∧ e.val = .int .i64 n ∧ f s = some n) ∧ ∀ s n, f s = some n → ∃ e ∈ es.toList, e.key = sV s
theorem SMap.made (w : World) : SMap (w.alloc (.map #[] 0)) w.heap.size (fun _ => none) :=
  ⟨#[], 0, (MapKept.heap_alloc w _).1, by simp, by simp, by simp⟩
theorem SMap.kept {w w' : World} {mb : Nat} {f : Bs → Option Int} (h : SMap w mb f) (hb : ∀ o, w.heap[mb]? = some o → w'.heap[mb]? = some o) : SMap w' mb f := by
  obtain ⟨es, clock, hm, he⟩ := h
  exact ⟨es, clock, hb _ hm, he⟩
theorem SMap.nb {w w' : World} {mb : Nat} {f : Bs → Option Int} (h : SMap w mb f) (k : Nb w w') : SMap w' mb f := h.kept fun o ho => k.block ho
theorem SMap.find {w : World} {mb : Nat} {f : Bs → Option Int} {es : Array MapEntry} (he : ∀ e ∈ es.toList, ∃ s n, e.key = sV s ∧ e.val = .int .i64 n ∧ f s = some n) (hf : ∀ s n, f s = some n → ∃ e ∈ es.toList, e.key = sV s) (s : Bs) :
    (Instr.findNow .string (sV s) es.toList 0 = some none ∧ f s = none ∧ ∀ x ∈ es.toList, x.key ≠ sV s) ∨ ∃ (j : Nat) (e : MapEntry) (n : Int), Instr.findNow .string (sV s) es.toList 0 = some (some (j, e.val)) ∧ es.toList[j]? = some e ∧ e.key = sV s ∧ e.val = .int .i64 n ∧ f s = some n := by
  rcases MapKept.findNow_spec (isKey_s s) es.toList 0 (fun x hx => by obtain ⟨t, n, hk, -, -⟩ := he x hx; rw [hk]; exact isKey_s t) with ⟨h1, h2⟩ | ⟨j, e, h1, h2, h3⟩
  · refine .inl ⟨h1, ?_, h2⟩
    cases hq : f s with
    | none => rfl
    | some n =>
      obtain ⟨e, hm, hk⟩ := hf s n hq
      exact absurd hk (h2 e hm)
  · obtain ⟨t, n, hk, hv, hn⟩ := he e (List.mem_of_getElem? h2)
    obtain rfl := sV_inj (hk.symm.trans h3)
    exact .inr ⟨j, e, n, by rw [h1, Nat.zero_add], h2, h3, hv, hn⟩
theorem put_s {w : World} {mb : Nat} {f : Bs → Option Int} (h : SMap w mb f) (s : Bs) (n : Int) :
    ∃ w', (Instr.mapUpdate 99 (.map (some mb)) (sV s) (.int .i64 n)).run Tryd.prog w = .ok () w' ∧ SMap w' mb (updF f s n) ∧ w.grownBy w' (some mb) := by
  obtain ⟨es, clock, hm, hu, he, hf⟩ := h
  have hc : (Instr.checkKey false 10000 9 (sV s)).run Tryd.prog w = .ok () w := MapKept.run_checkKey Tryd.underlying9 (isKey_s s) _ 9999
  rcases SMap.find (w := w) (mb := mb) he hf s with ⟨h1, h2, h4⟩ | ⟨j, e, m, h1, h2, hk, hv, hn⟩
  · have h3 := MapKept.run_findKey (P := Tryd.prog) (w := w) Tryd.underlying9 h1
    refine ⟨setBlock w mb (.map (es.push { key := sV s, val := .int .i64 n, born := clock }) (clock + 1)), ?_, ⟨_, _, heap_setBlock_same hm _, ?_, ?_, ?_⟩, ⟨rfl, rfl, rfl, by simp [setBlock], fun i _ hi => heap_setBlock_other hm _ (fun e => hi (by rw [e]))⟩⟩
    · simp only [Instr.mapUpdate, Sem.run_bind, run_underlying Tryd.underlying99, MapKept.run_getObj_map hm, hc, h3, MapKept.run_setObj_map _ hm, Result.andThen_ok]
      rfl
    · rw [Array.toList_push, List.map_append, List.nodup_append]
      refine ⟨hu, by simp, ?_⟩
      intro a ha b hb
      obtain ⟨x, hx, rfl⟩ := List.mem_map.1 ha
      simp only [List.map_cons, List.map_nil, List.mem_singleton] at hb
      subst hb
      exact h4 x hx
    · intro x hx
      simp only [Array.toList_push, List.mem_append, List.mem_singleton] at hx
      rcases hx with hx | rfl
      · obtain ⟨t, n', a, b, c⟩ := he x hx
        refine ⟨t, n', a, b, ?_⟩
        rw [updF_ne (fun e => h4 x hx (by rw [a, e]))]
        exact c
      · exact ⟨s, n, rfl, rfl, updF_self ..⟩
    · intro t n' ht
      simp only [Array.toList_push, List.mem_append, List.mem_singleton]
      by_cases e : s = t
      · exact ⟨_, .inr rfl, by rw [e]⟩
      · rw [updF_ne e] at ht
        obtain ⟨x, hx, hk⟩ := hf t n' ht
        exact ⟨x, .inl hx, hk⟩
  · have h3 := MapKept.run_findKey (P := Tryd.prog) (w := w) Tryd.underlying9 h1
    have hj : es[j]? = some e := by simpa using h2
    have hkeys : ((es.modify j fun e => { e with key := sV s, val := .int .i64 n }).toList.map (·.key)) = es.toList.map (·.key) := by
      apply List.ext_getElem?
      intro i
      simp only [List.getElem?_map, Array.getElem?_toList, Array.getElem?_modify]
      split
      · rename_i hi
        subst hi
        rw [hj]
        simp [hk]
      · rfl
    refine ⟨setBlock w mb (.map (es.modify j fun e => { e with key := sV s, val := .int .i64 n }) clock), ?_, ⟨_, _, heap_setBlock_same hm _, by rw [hkeys]; exact hu, ?_, ?_⟩, ⟨rfl, rfl, rfl, by simp [setBlock], fun i _ hi => heap_setBlock_other hm _ (fun e => hi (by rw [e]))⟩⟩
    · simp only [Instr.mapUpdate, Sem.run_bind, run_underlying Tryd.underlying99, MapKept.run_getObj_map hm, hc, h3, hj, Option.map_some, Option.getD_some, hk, keyThat_s, MapKept.run_setObj_map _ hm, Result.andThen_ok]
      rfl
    · intro x hx
      obtain ⟨i, hi⟩ := List.getElem?_of_mem hx
      simp only [Array.getElem?_toList, Array.getElem?_modify] at hi
      split at hi
      · rw [Option.map_eq_some_iff] at hi
        obtain ⟨y, -, rfl⟩ := hi
        exact ⟨s, n, rfl, rfl, updF_self ..⟩
      · rename_i hij
        have hmem : x ∈ es.toList := by rw [← Array.getElem?_toList] at hi; exact List.mem_of_getElem? hi
        obtain ⟨t, n', a, b, c⟩ := he x hmem
        refine ⟨t, n', a, b, ?_⟩
        rw [updF_ne, c]
        intro e'
        subst e'
        have h5 : (es.toList.map (·.key))[i]? = some (sV s) := by simp [hi, a]
        have h6 : (es.toList.map (·.key))[j]? = some (sV s) := by simp [hj, hk]
        have hi2 := (List.getElem?_eq_some_iff.1 h5).1
        have hj2 := (List.getElem?_eq_some_iff.1 h6).1
        exact hij ((List.getElem?_inj hj2 hu).1 (h6.trans h5.symm))
    · intro t n' ht
      have : sV t ∈ (es.modify j fun e => { e with key := sV s, val := .int .i64 n }).toList.map (·.key) := by
        rw [hkeys]
        by_cases e : s = t
        · subst e
          exact List.mem_map.2 ⟨_, List.mem_of_getElem? h2, hk⟩
        · rw [updF_ne e] at ht
          obtain ⟨x, hx, hk⟩ := hf t n' ht
          exact List.mem_map.2 ⟨x, hx, hk⟩
      obtain ⟨x, hx, hk⟩ := List.mem_map.1 this
      exact ⟨x, hx, hk⟩
theorem wpList_put_s {w : World} {ops : Array Oper} {rest : List Oper} {o : Oper} {a : Act} {Q' : Exit → Act → World → Prop} (hg : o.guard = none) (m x y : Operand) (hop : o.op = Op.mapUpdate 99 m x y)
    {mb : Nat} {f : Bs → Option Int} (h : SMap w mb f) {s : Bs} {n : Int} (hm : a.eval m = .map (some mb)) (hx : a.eval x = sV s) (hy : a.eval y = .int .i64 n)
    (hK : ∀ w', SMap w' mb (updF f s n) → w.grownBy w' (some mb) → wpList Tryd.prog ops Q' rest (a.put o.dst undef) w') : wpList Tryd.prog ops Q' (o :: rest) a w := by
  refine wpList_plain hg fun K' hK' => ?_
  obtain ⟨w', hrun, r1, r2⟩ := put_s h s n
  unfold Oper.wp
  simp [execOp, hop, hm, hx, hy, hrun, Result.andThen]
  exact hK' _ _ (hK w' r1 r2)

theorem look1_s {w : World} {mb : Nat} {f : Bs → Option Int} (h : SMap w mb f) (s : Bs) :
    (Instr.lookup 99 (.map (some mb)) (sV s) false).run Tryd.prog w = .ok (.int .i64 ((f s).getD 0)) w := by
  obtain ⟨es, clock, hm, -, he, hf⟩ := h
  have hz : (zeroValue 3).run Tryd.prog w = .ok (.int .i64 0) w := by kernel_rfl
  have hc : (Instr.checkKey es.isEmpty 10000 9 (sV s)).run Tryd.prog w = .ok () w := MapKept.run_checkKey Tryd.underlying9 (isKey_s s) _ 9999
  rcases SMap.find (w := w) (mb := mb) he hf s with ⟨h1, h2, -⟩ | ⟨j, e, n, h1, -, -, hv, hn⟩
  · have h3 := MapKept.run_findKey (P := Tryd.prog) (w := w) Tryd.underlying9 h1
    rw [h2]
    simp only [Instr.lookup, Sem.run_bind, run_underlying Tryd.underlying99, MapKept.run_getObj_map hm, hc, h3, hz, Result.andThen_ok, Sem.run_pure]
    rfl
  · have h3 := MapKept.run_findKey (P := Tryd.prog) (w := w) Tryd.underlying9 h1
    rw [hn]
    simp only [Instr.lookup, Sem.run_bind, run_underlying Tryd.underlying99, MapKept.run_getObj_map hm, hc, h3, hz, Result.andThen_ok, Sem.run_pure, hv]
    rfl
/-- A map tells f of names. -/
def SMapu (w : World) (mb : Nat) (f : Bs → Option Int) : Prop :=
  ∃ es clock, w.heap[mb]? = some (.map es clock) ∧ (es.toList.map (·.key)).Nodup ∧ (∀ e ∈ es.toList, ∃ s n, e.key = sV s ∧ e.val = .int .u64 n ∧ f s = some n) ∧ ∀ s n, f s = some n → ∃ e ∈ es.toList, e.key = sV s
theorem SMapu.made (w : World) : SMapu (w.alloc (.map #[] 0)) w.heap.size (fun _ => none) :=
  ⟨#[], 0, (MapKept.heap_alloc w _).1, by simp, by simp, by simp⟩
theorem SMapu.kept {w w' : World} {mb : Nat} {f : Bs → Option Int} (h : SMapu w mb f) (hb : ∀ o, w.heap[mb]? = some o → w'.heap[mb]? = some o) : SMapu w' mb f := by
  obtain ⟨es, clock, hm, he⟩ := h
  exact ⟨es, clock, hb _ hm, he⟩
theorem SMapu.nb {w w' : World} {mb : Nat} {f : Bs → Option Int} (h : SMapu w mb f) (k : Nb w w') : SMapu w' mb f := h.kept fun o ho => k.block ho
theorem SMapu.find {w : World} {mb : Nat} {f : Bs → Option Int} {es : Array MapEntry} (he : ∀ e ∈ es.toList, ∃ s n, e.key = sV s ∧ e.val = .int .u64 n ∧ f s = some n) (hf : ∀ s n, f s = some n → ∃ e ∈ es.toList, e.key = sV s) (s : Bs) :
    (Instr.findNow .string (sV s) es.toList 0 = some none ∧ f s = none ∧ ∀ x ∈ es.toList, x.key ≠ sV s) ∨ ∃ (j : Nat) (e : MapEntry) (n : Int), Instr.findNow .string (sV s) es.toList 0 = some (some (j, e.val)) ∧ es.toList[j]? = some e ∧ e.key = sV s ∧ e.val = .int .u64 n ∧ f s = some n := by
  rcases MapKept.findNow_spec (isKey_s s) es.toList 0 (fun x hx => by obtain ⟨t, n, hk, -, -⟩ := he x hx; rw [hk]; exact isKey_s t) with ⟨h1, h2⟩ | ⟨j, e, h1, h2, h3⟩
  · refine .inl ⟨h1, ?_, h2⟩
    cases hq : f s with
    | none => rfl
    | some n =>
      obtain ⟨e, hm, hk⟩ := hf s n hq
      exact absurd hk (h2 e hm)
  · obtain ⟨t, n, hk, hv, hn⟩ := he e (List.mem_of_getElem? h2)
    obtain rfl := sV_inj (hk.symm.trans h3)
    exact .inr ⟨j, e, n, by rw [h1, Nat.zero_add], h2, h3, hv, hn⟩
theorem put_su {w : World} {mb : Nat} {f : Bs → Option Int} (h : SMapu w mb f) (s : Bs) (n : Int) :
    ∃ w', (Instr.mapUpdate 79 (.map (some mb)) (sV s) (.int .u64 n)).run Tryd.prog w = .ok () w' ∧ SMapu w' mb (updF f s n) ∧ w.grownBy w' (some mb) := by
  obtain ⟨es, clock, hm, hu, he, hf⟩ := h
  have hc : (Instr.checkKey false 10000 9 (sV s)).run Tryd.prog w = .ok () w := MapKept.run_checkKey Tryd.underlying9 (isKey_s s) _ 9999
  rcases SMapu.find (w := w) (mb := mb) he hf s with ⟨h1, h2, h4⟩ | ⟨j, e, m, h1, h2, hk, hv, hn⟩
  · have h3 := MapKept.run_findKey (P := Tryd.prog) (w := w) Tryd.underlying9 h1
    refine ⟨setBlock w mb (.map (es.push { key := sV s, val := .int .u64 n, born := clock }) (clock + 1)), ?_, ⟨_, _, heap_setBlock_same hm _, ?_, ?_, ?_⟩, ⟨rfl, rfl, rfl, by simp [setBlock], fun i _ hi => heap_setBlock_other hm _ (fun e => hi (by rw [e]))⟩⟩
    · simp only [Instr.mapUpdate, Sem.run_bind, run_underlying Tryd.underlying79, MapKept.run_getObj_map hm, hc, h3, MapKept.run_setObj_map _ hm, Result.andThen_ok]
      rfl
    · rw [Array.toList_push, List.map_append, List.nodup_append]
      refine ⟨hu, by simp, ?_⟩
      intro a ha b hb
      obtain ⟨x, hx, rfl⟩ := List.mem_map.1 ha
      simp only [List.map_cons, List.map_nil, List.mem_singleton] at hb
      subst hb
      exact h4 x hx
    · intro x hx
      simp only [Array.toList_push, List.mem_append, List.mem_singleton] at hx
      rcases hx with hx | rfl
      · obtain ⟨t, n', a, b, c⟩ := he x hx
        refine ⟨t, n', a, b, ?_⟩
        rw [updF_ne (fun e => h4 x hx (by rw [a, e]))]
        exact c
      · exact ⟨s, n, rfl, rfl, updF_self ..⟩
    · intro t n' ht
      simp only [Array.toList_push, List.mem_append, List.mem_singleton]
      by_cases e : s = t
      · exact ⟨_, .inr rfl, by rw [e]⟩
      · rw [updF_ne e] at ht
        obtain ⟨x, hx, hk⟩ := hf t n' ht
        exact ⟨x, .inl hx, hk⟩
  · have h3 := MapKept.run_findKey (P := Tryd.prog) (w := w) Tryd.underlying9 h1
    have hj : es[j]? = some e := by simpa using h2
    have hkeys : ((es.modify j fun e => { e with key := sV s, val := .int .u64 n }).toList.map (·.key)) = es.toList.map (·.key) := by
      apply List.ext_getElem?
      intro i
      simp only [List.getElem?_map, Array.getElem?_toList, Array.getElem?_modify]
      split
      · rename_i hi
        subst hi
        rw [hj]
        simp [hk]
      · rfl
    refine ⟨setBlock w mb (.map (es.modify j fun e => { e with key := sV s, val := .int .u64 n }) clock), ?_, ⟨_, _, heap_setBlock_same hm _, by rw [hkeys]; exact hu, ?_, ?_⟩, ⟨rfl, rfl, rfl, by simp [setBlock], fun i _ hi => heap_setBlock_other hm _ (fun e => hi (by rw [e]))⟩⟩
    · simp only [Instr.mapUpdate, Sem.run_bind, run_underlying Tryd.underlying79, MapKept.run_getObj_map hm, hc, h3, hj, Option.map_some, Option.getD_some, hk, keyThat_s, MapKept.run_setObj_map _ hm, Result.andThen_ok]
      rfl
    · intro x hx
      obtain ⟨i, hi⟩ := List.getElem?_of_mem hx
      simp only [Array.getElem?_toList, Array.getElem?_modify] at hi
      split at hi
      · rw [Option.map_eq_some_iff] at hi
        obtain ⟨y, -, rfl⟩ := hi
        exact ⟨s, n, rfl, rfl, updF_self ..⟩
      · rename_i hij
        have hmem : x ∈ es.toList := by rw [← Array.getElem?_toList] at hi; exact List.mem_of_getElem? hi
        obtain ⟨t, n', a, b, c⟩ := he x hmem
        refine ⟨t, n', a, b, ?_⟩
        rw [updF_ne, c]
        intro e'
        subst e'
        have h5 : (es.toList.map (·.key))[i]? = some (sV s) := by simp [hi, a]
        have h6 : (es.toList.map (·.key))[j]? = some (sV s) := by simp [hj, hk]
        have hi2 := (List.getElem?_eq_some_iff.1 h5).1
        have hj2 := (List.getElem?_eq_some_iff.1 h6).1
        exact hij ((List.getElem?_inj hj2 hu).1 (h6.trans h5.symm))
    · intro t n' ht
      have : sV t ∈ (es.modify j fun e => { e with key := sV s, val := .int .u64 n }).toList.map (·.key) := by
        rw [hkeys]
        by_cases e : s = t
        · subst e
          exact List.mem_map.2 ⟨_, List.mem_of_getElem? h2, hk⟩
        · rw [updF_ne e] at ht
          obtain ⟨x, hx, hk⟩ := hf t n' ht
          exact List.mem_map.2 ⟨x, hx, hk⟩
      obtain ⟨x, hx, hk⟩ := List.mem_map.1 this
      exact ⟨x, hx, hk⟩
theorem look1_su {w : World} {mb : Nat} {f : Bs → Option Int} (h : SMapu w mb f) (s : Bs) :
    (Instr.lookup 79 (.map (some mb)) (sV s) false).run Tryd.prog w = .ok (.int .u64 ((f s).getD 0)) w := by
  obtain ⟨es, clock, hm, -, he, hf⟩ := h
  have hz : (zeroValue 23).run Tryd.prog w = .ok (.int .u64 0) w := by kernel_rfl
  have hc : (Instr.checkKey es.isEmpty 10000 9 (sV s)).run Tryd.prog w = .ok () w := MapKept.run_checkKey Tryd.underlying9 (isKey_s s) _ 9999
  rcases SMapu.find (w := w) (mb := mb) he hf s with ⟨h1, h2, -⟩ | ⟨j, e, n, h1, -, -, hv, hn⟩
  · have h3 := MapKept.run_findKey (P := Tryd.prog) (w := w) Tryd.underlying9 h1
    rw [h2]
    simp only [Instr.lookup, Sem.run_bind, run_underlying Tryd.underlying79, MapKept.run_getObj_map hm, hc, h3, hz, Result.andThen_ok, Sem.run_pure]
    rfl
  · have h3 := MapKept.run_findKey (P := Tryd.prog) (w := w) Tryd.underlying9 h1
    rw [hn]
    simp only [Instr.lookup, Sem.run_bind, run_underlying Tryd.underlying79, MapKept.run_getObj_map hm, hc, h3, hz, Result.andThen_ok, Sem.run_pure, hv]
    rfl
theorem wpListIn_look1_su {F : Fence} {nn : Nat} {w : World} {ops : Array Oper} {rest : List Oper} {o : Oper} {a : Act} {Q' : Exit → Act → World → Prop} (hg : o.guard = none) (m x : Operand) (hop : o.op = Op.lookup 79 m x false)
    {mb : Nat} {f : Bs → Option Int} (h : SMapu w mb f) {s : Bs} (hm : a.eval m = .map (some mb)) (hx : a.eval x = sV s) {r : Int} (hr : (f s).getD 0 = r)
    (h0 : wpListIn F nn Tryd.prog ops Q' rest (a.put o.dst (.int .u64 r)) w) : wpListIn F nn Tryd.prog ops Q' (o :: rest) a w := by
  refine wpListIn_plain hg fun K' hK' => ?_
  have hrun := look1_su h s
  rw [hr] at hrun
  unfold Oper.wpIn
  refine ⟨?_, ?_⟩
  · simp [Oper.about, hop]
  · rw [Oper.semAt_plain F _ _ (by rw [hop]; intro c hc'; cases hc')]
    simp [execOp, hop, hm, hx, hrun, Result.andThen]
    exact hK' _ _ h0
theorem wpListIn_put_su {F : Fence} {nn : Nat} {w : World} {ops : Array Oper} {rest : List Oper} {o : Oper} {a : Act} {Q' : Exit → Act → World → Prop} (hg : o.guard = none) (m x y : Operand) (hop : o.op = Op.mapUpdate 79 m x y)
    {mb : Nat} {f : Bs → Option Int} (h : SMapu w mb f) {s : Bs} {n : Int} (hm : a.eval m = .map (some mb)) (hx : a.eval x = sV s) (hy : a.eval y = .int .u64 n)
    (hK : ∀ w', SMapu w' mb (updF f s n) → w.grownBy w' (some mb) → wpListIn F nn Tryd.prog ops Q' rest (a.put o.dst undef) w') : wpListIn F nn Tryd.prog ops Q' (o :: rest) a w := by
  refine wpListIn_plain hg fun K' hK' => ?_
  obtain ⟨w', hrun, r1, r2⟩ := put_su h s n
  unfold Oper.wpIn
  refine ⟨?_, ?_⟩
  · simp [Oper.about, hop]
  · rw [Oper.semAt_plain F _ _ (by rw [hop]; intro c hc'; cases hc')]
    simp [execOp, hop, hm, hx, hy, hrun, Result.andThen]
    exact hK' _ _ (hK w' r1 r2)
end Go.Proofs.YtnooabgdcfegeaaDoor
