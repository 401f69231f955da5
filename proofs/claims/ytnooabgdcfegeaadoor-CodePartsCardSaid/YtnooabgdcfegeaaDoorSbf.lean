/-
  Proved here: places, the iterator of the items' places and addresses. Conditions: the rounds keep the draft and its rows.
-/
import Derived.Test.YtnooabgdcfegeaaDoorSbe
import Derived.LoopNIn
import Derived.LoopIn
namespace Go.Proofs.YtnooabgdcfegeaaDoor
open Go.RowKit Go.Shelf
set_option linter.unusedVariables false
set_option linter.unusedSimpArgs false
set_option maxRecDepth 100000
set_option maxHeartbeats 8000000
attribute [local go_sem] Oper.semAt_some
/-- Places and addresses. -/
def plcL (base : Int) (ps : List (Itm × Bool)) : List (Nat × Int) := (List.range ps.length).map fun k => (k, base + 4 * (wSum (ps.take k) : Int))
def YldP (Kp : World → World → Prop) (V : Nat × Int → Prop) (l N : Nat) (J Jx : List (Nat × Int) → World → Prop) : Prop := ∀ (m : Nat) (pre : List (Nat × Int)) (x : Nat × Int) (W : World), V x → J pre W → pre.length < N → YieldAt Fence.wide m Tryd.prog l #[.int .i64 x.1, .int .u64 x.2] W fun e W' =>
  (e = .returned (.bool true) ∧ J (pre ++ [x]) W' ∧ Kp W W') ∨ (e = .returned (.bool false) ∧ Jx (pre ++ [x]) W' ∧ Kp W W')
theorem ItAt.same {A C : World} {b off : Nat} {is : List Itm} (h : ItAt A b off is) (e : C.heap[b]? = A.heap[b]?) : ItAt C b off is := fun k i hk j u hu => by
  have := h k i hk j u hu
  unfold World.cell? at this ⊢
  rw [show C.heap[({ block := b, off := off + k * 10 + j } : Addr).block]? = A.heap[({ block := b, off := off + k * 10 + j } : Addr).block]? from e]
  exact this
theorem FlAt.same {A C : World} {b : Nat} {fs : List Bool} (h : FlAt A b fs) (e : C.heap[b]? = A.heap[b]?) : FlAt C b fs := fun k f hk => by
  have := h k f hk
  unfold World.cell? at this ⊢
  rw [show C.heap[({ block := b, off := k } : Addr).block]? = A.heap[({ block := b, off := k } : Addr).block]? from e]
  exact this
/-- Of the objects below a place all stay; of the others those that lie not where R says, and of which X says that nobody may write them. -/
def Kn (n0 : Nat) (X : Obj → Bool) (R : Nat → Prop) (A B : World) : Prop := A.heap.size ≤ B.heap.size ∧ ∀ k o, A.heap[k]? = some o → (k < n0 ∨ (¬ R k ∧ X o = false)) → B.heap[k]? = some o
theorem Kn.refl {n0 : Nat} {X : Obj → Bool} {R : Nat → Prop} (A : World) : Kn n0 X R A A := ⟨Nat.le_refl _, fun _ _ h _ => h⟩
theorem Kn.trans {n0 : Nat} {X : Obj → Bool} {R : Nat → Prop} {A B C : World} (h : Kn n0 X R A B) (k : Kn n0 X R B C) : Kn n0 X R A C := ⟨Nat.le_trans h.1 k.1, fun i o hA hi => k.2 i o (h.2 i o hA hi) hi⟩
theorem Kn.of_nb {n0 : Nat} {X : Obj → Bool} {R : Nat → Prop} {A B : World} (h : Nb A B) : Kn n0 X R A B := ⟨h.size, fun k o hA _ => h.block hA⟩
theorem Kn.low {n0 : Nat} {X : Obj → Bool} {R : Nat → Prop} {A B : World} (h : Kn n0 X R A B) {k : Nat} {o : Obj} (hk : k < n0) (hA : A.heap[k]? = some o) : B.heap[k]? = some o := h.2 k o hA (.inl hk)
theorem Kn.block {n0 : Nat} {X : Obj → Bool} {R : Nat → Prop} {A B : World} (h : Kn n0 X R A B) {k : Nat} {o : Obj} (hk : ¬ R k) (hA : A.heap[k]? = some o) (hX : X o = false) : B.heap[k]? = some o := h.2 k o hA (.inr ⟨hk, hX⟩)
theorem Kn.putObj {n0 : Nat} {X : Obj → Bool} {R : Nat → Prop} (W : World) (l : Nat) (o' : Obj) (h : R l) (hl : n0 ≤ l) : Kn n0 X R W (W.putObj l o') :=
  ⟨(grownBy_putObj' W l o').size, fun k u hA hk => (World.putObj_heap_other (show k ≠ l from fun e => hk.elim (fun h2 => by omega) (fun h2 => h2.1 (by rw [e]; exact h)))).trans hA⟩
/-- What is kept below, and what is kept above. -/
theorem Kn.of {n0 : Nat} {X : Obj → Bool} {R : Nat → Prop} {w A B : World} (hn : n0 ≤ w.heap.size) (h : Kq X R A B) (hA : Below n0 w A) (hB : Below n0 w B) : Kn n0 X R A B :=
  ⟨h.1, fun k o hk hc => by
    rcases hc with hc | hc
    · rw [hA.block k hc] at hk
      exact (hB.block k hc).trans hk
    · exact h.2 k o hc.1 hk hc.2⟩
theorem plc_any (Kp : World → World → Prop) (hKr : ∀ A, Kp A A) (hKt : ∀ {A B C : World}, Kp A B → Kp B C → Kp A C) (hKn : ∀ {A B : World}, Nb A B → Kp A B) (l N B : Nat) (J Jx : List (Nat × Int) → World → Prop) (hJ : OwnFrom B J) (V : Nat × Int → Prop) (hY : YldP Kp V l N J Jx) (DB : Nat)
    (it : Option Addr) (b off cap g c2 : Nat) (base : Int) (hb0 : 0 ≤ base) (hb1 : base ≤ 1073741824) (is : List Itm) (fs : List Bool) (hit : is ≠ [] → it = some ⟨b, off, none⟩) (hfs : fs.length = is.length) (hcap : is.length ≤ cap) (hc2 : is.length ≤ c2) (hl : is.length ≤ 100000) (hv : ∀ i ∈ is, 0 ≤ i.2.2.2 ∧ i.2.2.2 < 18446744073709551616 ∧ ImOk i.2.1) (hVp : ∀ k, k < is.length → V (k, base + 4 * (wSum ((is.zip fs).take k) : Int)))
    (ob og : Obj) (hPb : ∀ A B, Kp A B → A.heap[b]? = some ob → B.heap[b]? = some ob) (hPg : ∀ A B, Kp A B → A.heap[g]? = some og → B.heap[g]? = some og)
    (hPD : ∀ A B, Kp A B → A.heap[DB]? = some (.cells #[.slice it is.length cap, .int .u64 base, .slice (some ⟨g, 0, none⟩) is.length c2] 48 (0, 0)) → B.heap[DB]? = some (.cells #[.slice it is.length cap, .int .u64 base, .slice (some ⟨g, 0, none⟩) is.length c2] 48 (0, 0))) (pre : List (Nat × Int)) (W : World) (hob : W.heap[b]? = some ob) (hog : W.heap[g]? = some og)
    (hD : W.heap[DB]? = some (.cells #[.slice it is.length cap, .int .u64 base, .slice (some ⟨g, 0, none⟩) is.length c2] 48 (0, 0))) (hI : ItAt W b off is) (hF : FlAt W g fs) (hj : J pre W) (hN : pre.length + is.length ≤ N) :
    Calls Tryd.prog 60 #[.func (.yield l) #[] #[], .pointer (some ⟨DB, 0, none⟩)] W fun r W' => (∃ x, r = .returned x) ∧ (J (pre ++ plcL base (is.zip fs)) W' ∨ ∃ q, q <+: plcL base (is.zip fs) ∧ Jx (pre ++ q) W') := by
  obtain ⟨ps, hps⟩ : ∃ ps, is.zip fs = ps := ⟨_, rfl⟩
  have hpl : ps.length = is.length := by rw [← hps, List.length_zip]; omega
  have hw : ∀ (k : Nat) (w2 : World), k < is.length → Kp W w2 → ∃ m : Nat, m ≤ 8 ∧ wSum (ps.take (k + 1)) = wSum (ps.take k) + m ∧ Calls Tryd.prog 30 #[.agg #[.slice it is.length cap, .int .u64 base, .slice (some ⟨g, 0, none⟩) is.length c2], .int .i64 k] w2 fun r w' => r = .returned (.int .i64 m) ∧ Nb w2 w' := by
    intro k w2 hk hn
    obtain rfl := hit (by rintro rfl; simp at hk)
    have h1 : is[k]? = some is[k] := List.getElem?_eq_getElem hk
    have h2 : fs[k]? = some (fs[k]'(by omega)) := List.getElem?_eq_getElem (by omega)
    have h3 : ps[k]? = some (is[k], fs[k]'(by omega)) := (congrArg (fun l : List (Itm × Bool) => l[k]?) hps).symm.trans (List.getElem?_zip_eq_some.2 ⟨h1, h2⟩)
    have hm := hv _ (List.getElem_mem hk)
    refine ⟨_, insI_len is[k] 0 0 (fs[k]'(by omega)), ?_, wordsOf_any b off cap g c2 base is fs hcap hc2 hl k _ _ h1 h2 hm.1 hm.2.1 hm.2.2 w2 (hI.same ((hPb _ _ hn hob).trans hob.symm)) (hF.same ((hPg _ _ hn hog).trans hog.symm))⟩
    rw [List.take_add_one, h3, wSum_app]
    simp [wSum]
  have hpt : ∀ k, k < is.length → (plcL base ps).take (k + 1) = (plcL base ps).take k ++ [(k, base + 4 * (wSum (ps.take k) : Int))] := by
    intro k hk
    have : (plcL base ps)[k]? = some (k, base + 4 * (wSum (ps.take k) : Int)) := by
      unfold plcL
      rw [List.getElem?_map, List.getElem?_range (by omega)]
      rfl
    rw [List.take_add_one, this]
    rfl
  have hpz : (plcL base ps).length = is.length := by unfold plcL; simp [hpl]
  have hle : ∀ k, k ≤ is.length → wSum (ps.take k) ≤ 800000 := fun k hk => by have := wSum_le (ps.take k); rw [List.length_take] at this; omega
  rw [hps] at hVp ⊢
  have hVh := Lib.hid hVp
  have hW := Lib.hid hw
  have hPt := Lib.hid hpt
  have hPz := Lib.hid hpz
  have hLe := Lib.hid hle
  have hJh := Lib.hid hJ
  have hYh := Lib.hid hY
  have hlen0 := Lib.hid hN
  have hKd := Lib.hid (show ∀ V, Kp W V → V.heap[DB]? = _ from fun V hV => hPD _ _ hV hD)
  have d0 := cell_of_row _ _ 0 _ _ _ hD
  have d1 := cell_of_row _ _ 1 _ _ _ hD
  clear hVp hI hF hv hw hpt hpz hle hps hpl hfs hJ hY hN hob hog hD hit hPb hPg hPD
  obtain ⟨n, hn⟩ : ∃ n, is.length = n := ⟨_, rfl⟩
  rw [hn] at hVh hW hPt hPz hLe hlen0 hKd hcap hc2 hl d0
  clear hn
  refine (callsIn_wide (n := 1)).1 ?_
  refine callsIn_of_wp Tryd.func60 rfl trivial ?_ rfl
  simp only [Tryd.ntmps60, List.size_toArray, List.length_cons, List.length_nil, Nat.reduceAdd, Nat.reduceSub, Array.replicate_succ, Array.replicate_zero, List.push_toArray, List.append_toArray, List.nil_append, List.cons_append]
  gi_wp2
  gi_loopw [3, 10] (fun o i wr => ∃ k : Nat, k ≤ n ∧ i = .int .i64 k ∧ o = .int .u64 (base + 4 * (wSum (ps.take k) : Int)) ∧ Hid (J (pre ++ (plcL base ps).take k) wr) ∧ Hid (Kp W wr)) (fun _ i _ => n - (intOf i).toNat)
  case atStart => exact ⟨0, Nat.zero_le _, rfl, by simp [wSum], Lib.hid (by simpa using hj), Lib.hid (hKr _)⟩
  case round =>
    obtain ⟨k, hk, rfl, rfl, hJs, hKs⟩ := hrel
    by_cases hlt : k < n
    · have htk := Lib.hid (hPt.out k hlt)
      have hs := hLe.out k hk
      obtain ⟨fn, tmps, assign, body, hy, hR⟩ := hYh.out 0 (pre ++ (plcL base ps).take k) (k, base + 4 * (wSum (ps.take k) : Int)) wr (hVh.out k hlt) hJs.out (by have := hlen0.out; have := hPz.out; rw [List.length_append, List.length_take]; omega)
      have hwk := fun V (hV : Kp W V) => hW.out k V hlt hV
      replace hwk := Lib.hid hwk
      replace hR := Lib.hid hR
      simp only [] at hy
      gi_wp2
      refine hR.out.mono ?_
      rintro e W5 (⟨rfl, hj3, hk3⟩ | ⟨rfl, hx3, hk3⟩)
      · have hK5 := hKt hKs.out hk3
        have hD5 := hKd.out W5 hK5
        have c0 := cell_of_row _ _ 0 _ _ _ hD5
        have c1 := cell_of_row _ _ 1 _ _ _ hD5
        have c2' := cell_of_row _ _ 2 _ _ _ hD5
        obtain ⟨m, hm8, hsum, hcall⟩ := hwk.out W5 hK5
        have hcall' := Lib.hid hcall
        have hj3' := Lib.hid hj3
        have hsum' := Lib.hid hsum
        clear hy hR hcall hj3 hsum
        have e1 : IntKind.u64.wrap (m : Int) = (m : Int) := by rw [IntKind.wrap_u64]; omega
        have e2 : IntKind.u64.wrap (4 * (m : Int)) = 4 * (m : Int) := by rw [IntKind.wrap_u64]; omega
        have e3 : IntKind.u64.wrap (base + 4 * (wSum (ps.take k) : Int) + 4 * (m : Int)) = base + 4 * (wSum (ps.take k) : Int) + 4 * (m : Int) := by rw [IntKind.wrap_u64]; omega
        gi_wp2
        refine ⟨trivial, (callsIn_wide.2 hcall'.out).mono ?_⟩
        rintro r w1 ⟨rfl, hn1⟩
        gi_wp2
        go_roundw
        case rel => exact ⟨k + 1, hlt, by simp, by rw [hsum'.out, Int.natCast_add]; congr 1; omega, Lib.hid (by rw [htk.out, ← List.append_assoc]; exact own_nb hJh.out hj3'.out hn1), Lib.hid (hKt hK5 (hKn hn1))⟩
        case measure => simp [intOf]; omega
      · clear hy hR
        gi_wp2
        refine bodyPost_ret (results_none rfl _ _ _) rfl ?_
        exact ⟨⟨_, rfl⟩, .inr ⟨(plcL base ps).take (k + 1), List.take_prefix _ _, by rw [htk.out, ← List.append_assoc]; exact hx3⟩⟩
    · obtain rfl : k = n := by omega
      have hJe : J (pre ++ plcL base ps) wr := by have := hJs.out; rwa [List.take_of_length_le (by rw [hPz.out]; exact Nat.le_refl _)] at this
      gi_wp2
      go_end0
      exact ⟨⟨_, rfl⟩, .inl hJe⟩
end Go.Proofs.YtnooabgdcfegeaaDoor
