/-
  Proved here: a map whose keys are places of lists and how long they are: what is found there, and what is put there. Conditions: the places lie in blocks of which nothing is frozen.
-/
import Derived.Test.YtmoggaecnjcjfaaVb
import Derived.LaidEql
import Derived.Maps.OwnSet
import Derived.WideKeyRuns
namespace Go.Proofs.Ytmoggaecnjcjfaa
open Go.RowKit Go.ChangeMaps
set_option linter.unusedVariables false
set_option linter.unusedSimpArgs false
set_option maxRecDepth 100000
set_option maxHeartbeats 4000000
/-- A block of which nothing is frozen. -/
def Fz (w : World) (b : Nat) : Prop := ∃ cs t, w.heap[b]? = some (.cells cs t (0, 0))
theorem Fz.nb {w w' : World} {b : Nat} (h : Fz w b) (k : Nb w w') : Fz w' b := by
  obtain ⟨cs, t, hb⟩ := h
  exact ⟨cs, t, k.block hb⟩
abbrev keyV (b o n : Nat) : Value := .agg #[.pointer (some ⟨b, o, none⟩), .int .i64 (n : Int)]
theorem same_places {P : Program} {w : World} {b o b' o' : Nat} (h : Fz w b) (h' : Fz w b') : (sameAddr ⟨b, o, none⟩ ⟨b', o', none⟩).run P w = .ok (decide (b = b' ∧ o = o')) w := by
  by_cases e : b = b' ∧ o = o'
  · obtain ⟨rfl, rfl⟩ := e
    rw [run_sameAddr_same]
    simp
  · obtain ⟨c, t, hb⟩ := h
    obtain ⟨c', t', hb'⟩ := h'
    rw [run_sameAddr_other w (fun e' => e (by cases e'; exact ⟨rfl, rfl⟩)) hb hb']
    simp [e]
theorem part_ptr {cs : Array Value} {k : Nat} {v : Value} {w : World} (h : cs[k]? = some v) : (part 75 cs k).run Try.prog w = .ok v w := by
  simp [part, isAgg, run_underlying Try.underlying75, h]
theorem part_intL {cs : Array Value} {k : Nat} {v : Value} {w : World} (h : cs[k]? = some v) : (part 3 cs k).run Try.prog w = .ok v w := by
  simp [part, isAgg, run_underlying Try.underlying3, h]
theorem fields_L : ∃ f0 f1 : Field, (Try.prog.fieldsOf 77).toList = [f0, f1] ∧ (f0.name ≠ "_" ∧ f0.type = 75 ∧ f0.offset = 0) ∧ (f1.name ≠ "_" ∧ f1.type = 3 ∧ f1.offset = 1) := by
  unfold Program.fieldsOf
  rw [Try.underlying77]
  exact ⟨_, _, rfl, ⟨by decide, rfl, rfl⟩, ⟨by decide, rfl, rfl⟩⟩
theorem eq_step2 {P : Program} {d : Nat} {xs ys : Array Value} {f : Field} {fs : List Field} {w : World} {a b : Value} {r : Bool} (hn : f.name ≠ "_") (p1 : (part f.type xs f.offset).run P w = .ok a w) (p2 : (part f.type ys f.offset).run P w = .ok b w) (p3 : (Op.equalIn d f.type a b).run P w = .ok r w) :
    (Op.eqFields d xs ys (f :: fs)).run P w = if r = true then (Op.eqFields d xs ys fs).run P w else .ok false w := by
  simp only [Op.eqFields, if_pos hn, Sem.run_bind, p1, p2, p3, Result.andThen_ok]
  cases r <;> simp
theorem eqP {d : Nat} {w : World} {b o b' o' : Nat} (h : Fz w b) (h' : Fz w b') : (Op.equalIn (d + 1) 75 (.pointer (some ⟨b, o, none⟩)) (.pointer (some ⟨b', o', none⟩))).run Try.prog w = .ok (decide (b = b' ∧ o = o')) w := by
  obtain ⟨j, hj, hs3⟩ := Option.map_eq_some_iff.1 (show (Try.prog.info? 24).map (·.size) = some 3 by kernel_rfl)
  have hsz : j.size ≠ 0 := by omega
  simp [Op.equalIn, run_underlying Try.underlying75, sizeOf, typeInfo, hj, hsz, same_places h h']
theorem eq_key {w : World} {b o n b' o' n' : Nat} (h : Fz w b) (h' : Fz w b') : (Op.equal 77 (keyV b o n) (keyV b' o' n')).run Try.prog w = .ok (decide ((b = b' ∧ o = o') ∧ n = n')) w := by
  obtain ⟨f0, f1, he, ⟨n0, t0, o0⟩, ⟨n1, t1, o1⟩⟩ := fields_L
  have hu : Try.prog.underlying 77 = some (.struct (Try.prog.fieldsOf 77)) := by kernel_rfl
  have hp : Try.prog.stoodInHeld 77 = false := by kernel_rfl
  unfold Op.equal Op.maxDepth
  rw [run_equalIn_struct w 9999 _ _ _ hu hp, he]
  rw [eq_step2 n0 (by rw [t0, o0]; exact part_ptr rfl) (by rw [t0, o0]; exact part_ptr rfl) (by rw [t0]; exact eqP h h')]
  rw [eq_step2 n1 (by rw [t1, o1]; exact part_intL rfl) (by rw [t1, o1]; exact part_intL rfl) (by rw [t1]; exact run_equalIn_int (P := Try.prog) w 9998 3 .i64 .i64 (n : Int) (n' : Int) Try.underlying3)]
  rw [show (Op.eqFields 9999 _ _ []).run Try.prog w = .ok true w by simp [Op.eqFields]]
  by_cases h1 : b = b' ∧ o = o'
  · by_cases h2 : n = n'
    · simp [h1, h2]
    · have : ¬ (n : Int) = (n' : Int) := by omega
      simp [h1, h2, this]
  · simp [h1]
theorem check_key (em : Bool) (b o n : Nat) (w : World) : (Instr.checkKey em 10000 77 (keyV b o n)).run Try.prog w = .ok () w := by
  have e1 : ∀ m a, (Instr.checkKey em (m + 1) 75 (.pointer a)).run Try.prog w = .ok () w := fun m a => by simp [Instr.checkKey, run_underlying Try.underlying75]
  have e2 : ∀ m a, (Instr.checkKey em (m + 1) 3 (.int .i64 a)).run Try.prog w = .ok () w := fun m a => by simp [Instr.checkKey, run_underlying Try.underlying3]
  show (Instr.checkKey em (9998 + 1 + 1) 77 (keyV b o n)).run Try.prog w = .ok () w
  unfold Instr.checkKey
  simp only [Sem.run_bind, run_underlying Try.underlying77, Result.andThen_ok]
  simp [e1, e2, part_ptr, part_intL]
/-- What a map of sizes holds: each entry tells Q of its place and length. -/
def KeysAt (W0 w : World) (mb : Nat) (Q : Nat → Nat → Nat → Value → Prop) : Prop :=
  ∃ es clock, w.heap[mb]? = some (.map es clock) ∧ ∀ e ∈ es.toList, ∃ b o n v, e.key = keyV b o n ∧ e.val = v ∧ Fz W0 b ∧ Q b o n v
theorem KeysAt.kept {W0 w w' : World} {mb : Nat} {Q : Nat → Nat → Nat → Value → Prop} (h : KeysAt W0 w mb Q) (hb : ∀ o, w.heap[mb]? = some o → w'.heap[mb]? = some o) : KeysAt W0 w' mb Q := by
  obtain ⟨es, clock, hm, he⟩ := h
  exact ⟨es, clock, hb _ hm, he⟩
theorem find_key {W0 w : World} {Q : Nat → Nat → Nat → Value → Prop} (k : Nb W0 w) {b o n : Nat} (hf : Fz w b) : ∀ (l : List MapEntry) (i : Nat), (∀ e ∈ l, ∃ b o n v, e.key = keyV b o n ∧ e.val = v ∧ Fz W0 b ∧ Q b o n v) →
    (Instr.findAsking 77 (keyV b o n) l i).run Try.prog w = .ok none w ∨ ∃ j e, (Instr.findAsking 77 (keyV b o n) l i).run Try.prog w = .ok (some (i + j, e.val)) w ∧ l[j]? = some e ∧ e.key = keyV b o n ∧ Q b o n e.val := by
  intro l
  induction l with
  | nil => intro i _; exact .inl (by simp [Instr.findAsking])
  | cons e l ih =>
    intro i h
    obtain ⟨b', o', n', v', hk, hv, hz, hq⟩ := h e (List.mem_cons_self ..)
    have e1 : (Instr.findAsking 77 (keyV b o n) (e :: l) i).run Try.prog w = if (decide ((b = b' ∧ o = o') ∧ n = n')) = true then .ok (some (i, e.val)) w else (Instr.findAsking 77 (keyV b o n) l (i + 1)).run Try.prog w := by
      simp only [Instr.findAsking, Sem.run_bind, hk, eq_key hf (hz.nb k), Result.andThen_ok]
      by_cases hd : (b = b' ∧ o = o') ∧ n = n' <;> simp [hd]
    rw [e1]
    by_cases hd : (b = b' ∧ o = o') ∧ n = n'
    · obtain ⟨⟨rfl, rfl⟩, rfl⟩ := hd
      exact .inr ⟨0, e, by simp, rfl, hk, by rw [hv]; exact hq⟩
    · rw [if_neg (by simpa using hd)]
      rcases ih (i + 1) (fun x hx => h x (List.mem_cons_of_mem _ hx)) with h1 | ⟨j, e', h1, h2, h3⟩
      · exact .inl h1
      · exact .inr ⟨j + 1, e', by rw [h1, show i + 1 + j = i + (j + 1) by omega], by simpa using h2, h3⟩
theorem run_keyThat (b o n : Nat) (w : World) : (Instr.keyThatStays (keyV b o n) (keyV b o n)).run Try.prog w = .ok (keyV b o n) w := by
  have h : Instr.sameBits 10000 (keyV b o n) (keyV b o n) = true := by
    simp [Instr.sameBits]
  simp [Instr.keyThatStays, h]
theorem find_run (w : World) (k : Value) (es : List MapEntry) : (Instr.findKey 77 k es).run Try.prog w = (Instr.findAsking 77 k es).run Try.prog w :=
  run_findKey_eq w (by kernel_rfl) k es
theorem look_key {W0 w : World} {mb : Nat} {Q : Nat → Nat → Nat → Value → Prop} (h : KeysAt W0 w mb Q) (k : Nb W0 w) {b o n : Nat} (hf : Fz w b) :
    (Instr.lookup 70 (.map (some mb)) (keyV b o n) true).run Try.prog w = .ok (.tuple #[.agg #[.int .i64 0, .int .i64 0], .bool false]) w ∨ ∃ v, (Instr.lookup 70 (.map (some mb)) (keyV b o n) true).run Try.prog w = .ok (.tuple #[v, .bool true]) w ∧ Q b o n v := by
  obtain ⟨es, clock, hm, he⟩ := h
  have hz : (zeroValue 57).run Try.prog w = .ok (.agg #[.int .i64 0, .int .i64 0]) w := by kernel_rfl
  rcases find_key k (n := n) (o := o) hf es.toList 0 he with h1 | ⟨j, e, h1, h2, h3, h4⟩
  · refine .inl ?_
    simp only [Instr.lookup, Sem.run_bind, run_underlying Try.underlying70, MapKept.run_getObj_map hm, check_key, find_run, h1, hz, Result.andThen_ok, Sem.run_pure]
    rfl
  · refine .inr ⟨e.val, ?_, h4⟩
    simp only [Instr.lookup, Sem.run_bind, run_underlying Try.underlying70, MapKept.run_getObj_map hm, check_key, find_run, h1, hz, Result.andThen_ok, Sem.run_pure]
    rfl
theorem put_key {W0 w : World} {mb : Nat} {Q : Nat → Nat → Nat → Value → Prop} (h : KeysAt W0 w mb Q) (k : Nb W0 w) {b o n : Nat} (hf0 : Fz W0 b) {v : Value} (hq : Q b o n v) :
    ∃ w', (Instr.mapUpdate 70 (.map (some mb)) (keyV b o n) v).run Try.prog w = .ok () w' ∧ KeysAt W0 w' mb Q ∧ w.grownBy w' (some mb) := by
  obtain ⟨es, clock, hm, he⟩ := h
  rcases find_key k (n := n) (o := o) (hf0.nb k) es.toList 0 he with h1 | ⟨j, e, h1, h2, h3, h4⟩
  · refine ⟨setBlock w mb (.map (es.push { key := keyV b o n, val := v, born := clock }) (clock + 1)), ?_, ⟨_, _, heap_setBlock_same hm _, ?_⟩, ⟨rfl, rfl, rfl, by simp [setBlock], fun i _ hi => heap_setBlock_other hm _ (fun e => hi (by rw [e]))⟩⟩
    · simp only [Instr.mapUpdate, Sem.run_bind, run_underlying Try.underlying70, MapKept.run_getObj_map hm, check_key, find_run, h1, MapKept.run_setObj_map _ hm, Result.andThen_ok]
      rfl
    · intro x hx
      simp only [Array.toList_push, List.mem_append, List.mem_singleton] at hx
      rcases hx with hx | rfl
      · exact he x hx
      · exact ⟨b, o, n, v, rfl, rfl, hf0, hq⟩
  · rw [Nat.zero_add] at h1
    have hj : es[j]? = some e := by simpa using h2
    refine ⟨setBlock w mb (.map (es.modify j fun e => { e with key := keyV b o n, val := v }) clock), ?_, ⟨_, _, heap_setBlock_same hm _, ?_⟩, ⟨rfl, rfl, rfl, by simp [setBlock], fun i _ hi => heap_setBlock_other hm _ (fun e => hi (by rw [e]))⟩⟩
    · simp only [Instr.mapUpdate, Sem.run_bind, run_underlying Try.underlying70, MapKept.run_getObj_map hm, check_key, find_run, h1, hj, Option.map_some, Option.getD_some, h3, run_keyThat, MapKept.run_setObj_map _ hm, Result.andThen_ok]
      rfl
    · intro x hx
      obtain ⟨i, hi⟩ := List.getElem?_of_mem hx
      simp only [Array.getElem?_toList, Array.getElem?_modify] at hi
      split at hi
      · rw [Option.map_eq_some_iff] at hi
        obtain ⟨y, -, rfl⟩ := hi
        exact ⟨b, o, n, v, rfl, rfl, hf0, hq⟩
      · exact he x (by rw [← Array.getElem?_toList] at hi; exact List.mem_of_getElem? hi)
theorem wpList_look_key {w : World} {ops : Array Oper} {rest : List Oper} {o : Oper} {a : Act} {Q' : Exit → Act → World → Prop} (hg : o.guard = none) (m x : Operand) (hop : o.op = Op.lookup 70 m x true)
    {W0 : World} {mb : Nat} {Q : Nat → Nat → Nat → Value → Prop} (h : KeysAt W0 w mb Q) (k : Nb W0 w) {b of n : Nat} (hf : Fz w b) (hm : a.eval m = .map (some mb)) (hx : a.eval x = keyV b of n)
    (h0 : wpList Try.prog ops Q' rest (a.put o.dst (.tuple #[.agg #[.int .i64 0, .int .i64 0], .bool false])) w) (h1 : ∀ v, Q b of n v → wpList Try.prog ops Q' rest (a.put o.dst (.tuple #[v, .bool true])) w) :
    wpList Try.prog ops Q' (o :: rest) a w := by
  refine wpList_plain hg fun K' hK' => ?_
  rcases look_key h k (o := of) (n := n) hf with hrun | ⟨v, hrun, hq⟩
  · unfold Oper.wp
    simp [execOp, hop, hm, hx, hrun, Result.andThen]
    exact hK' _ _ h0
  · unfold Oper.wp
    simp [execOp, hop, hm, hx, hrun, Result.andThen]
    exact hK' _ _ (h1 v hq)
theorem wpList_put_key {w : World} {ops : Array Oper} {rest : List Oper} {o : Oper} {a : Act} {Q' : Exit → Act → World → Prop} (hg : o.guard = none) (m x y : Operand) (hop : o.op = Op.mapUpdate 70 m x y)
    {W0 : World} {mb : Nat} {Q : Nat → Nat → Nat → Value → Prop} (h : KeysAt W0 w mb Q) (k : Nb W0 w) {b of n : Nat} (hf : Fz W0 b) {v : Value} (hq : Q b of n v) (hm : a.eval m = .map (some mb)) (hx : a.eval x = keyV b of n) (hy : a.eval y = v)
    (hK : ∀ w', KeysAt W0 w' mb Q → w.grownBy w' (some mb) → wpList Try.prog ops Q' rest (a.put o.dst undef) w') : wpList Try.prog ops Q' (o :: rest) a w := by
  refine wpList_plain hg fun K' hK' => ?_
  obtain ⟨w', hrun, r1, r2⟩ := put_key h k (o := of) (n := n) hf hq
  unfold Oper.wp
  simp [execOp, hop, hm, hx, hy, hrun, Result.andThen]
  exact hK' _ _ (hK w' r1 r2)
end Go.Proofs.Ytmoggaecnjcjfaa
