/-
  Proved here: places as a value that is ranged over. Conditions: where the draft lies, and that the rounds keep it.
-/
import Derived.Test.YtnooabgdcfegeaaDoorSbf
namespace Go.Proofs.YtnooabgdcfegeaaDoor
open Go.RowKit Go.Shelf
set_option linter.unusedVariables false
set_option linter.unusedSimpArgs false
set_option maxRecDepth 100000
set_option maxHeartbeats 8000000
theorem places_any (it : Option Addr) (n cap g c2 : Nat) (base : Int) (w : World) : Calls Tryd.prog 36 #[drV it n cap base g c2] w fun r w' =>
    r = .returned (.func (.func 60) #[] #[.pointer (some ⟨w.heap.size, 0, none⟩)]) ∧ w' = w.alloc (.cells #[.slice it n cap, .int .u64 base, .slice (some ⟨g, 0, none⟩) n c2] 48) := by
  have hmf : ∀ (fn : Fn) (first cap : Array Value) (w : World), (Instr.makeFunc fn first cap).run Tryd.prog w = .ok (.func fn first cap) w := fun _ _ _ _ => rfl
  unfold drV
  go_enter Tryd.func36, Tryd.ntmps36
  go_wp2_with fail
  go_ret
  exact ⟨rfl, rfl⟩
/-- A place and an address that may be. -/
abbrev PlV (n : Nat) := {x : Nat × Int // x.1 < n ∧ 0 ≤ x.2 ∧ x.2 < 18446744073709551616}
theorem plc_seq {e : Nat} (Kp : World → World → Prop) (hKr : ∀ A, Kp A A) (hKt : ∀ {A B C : World}, Kp A B → Kp B C → Kp A C) (hKn : ∀ {A B : World}, Nb A B → Kp A B) (n2 DB : Nat)
    (it : Option Addr) (b off cap g c2 : Nat) (base : Int) (hb0 : 0 ≤ base) (hb1 : base ≤ 1073741824) (is : List Itm) (fs : List Bool) (hit : is ≠ [] → it = some ⟨b, off, none⟩) (hfs : fs.length = is.length) (hcap : is.length ≤ cap) (hc2 : is.length ≤ c2) (hl : is.length ≤ 100000) (hv : ∀ i ∈ is, 0 ≤ i.2.2.2 ∧ i.2.2.2 < 18446744073709551616 ∧ ImOk i.2.1)
    (ob og : Obj) (hPb : ∀ A B, Kp A B → A.heap[b]? = some ob → B.heap[b]? = some ob) (hPg : ∀ A B, Kp A B → A.heap[g]? = some og → B.heap[g]? = some og)
    (hPD : ∀ A B, Kp A B → A.heap[DB]? = some (.cells #[.slice it is.length cap, .int .u64 base, .slice (some ⟨g, 0, none⟩) is.length c2] 48 (0, 0)) → B.heap[DB]? = some (.cells #[.slice it is.length cap, .int .u64 base, .slice (some ⟨g, 0, none⟩) is.length c2] 48 (0, 0))) (w : World) (hob : w.heap[b]? = some ob) (hog : w.heap[g]? = some og)
    (hD : w.heap[DB]? = some (.cells #[.slice it is.length cap, .int .u64 base, .slice (some ⟨g, 0, none⟩) is.length c2] 48 (0, 0))) (hI : ItAt w b off is) (hF : FlAt w g fs) :
    SeqStopsO Fence.wide n2 Tryd.prog 60 #[.pointer (some ⟨DB, 0, none⟩)] (fun (x : PlV is.length) => #[.int .i64 x.1.1, .int .u64 x.1.2]) Kp (fun _ => True) e (fun xs => xs.map (·.1) = plcL base (is.zip fs)) (fun q => q.map (·.1) <+: plcL base (is.zip fs)) is.length w := by
  intro l J Jx W hb hl2 hz hJ hJx hY h0
  have lt : ∀ {k : Nat} {o : Obj}, w.heap[k]? = some o → k < w.heap.size := fun h => (Array.getElem?_eq_some_iff.1 h).1
  refine callsIn_wide.2 ((plc_any Kp hKr (fun h k => hKt h k) (fun h => hKn h) l is.length W.heap.size (fun xs W => ∃ ys : List (PlV is.length), ys.map (·.1) = xs ∧ J ys W) (fun xs W => ∃ ys : List (PlV is.length), ys.map (·.1) = xs ∧ Jx ys W) ?_ (fun x => x.1 < is.length ∧ 0 ≤ x.2 ∧ x.2 < 18446744073709551616) ?_ DB it b off cap g c2 base hb0 hb1 is fs hit hfs hcap hc2 hl hv ?_ ob og hPb hPg hPD [] W ((hb.block _ (lt hob)).trans hob) ((hb.block _ (lt hog)).trans hog) ((hb.block _ (lt hD)).trans hD) (hI.nb hb) (hF.nb hb) ⟨[], rfl, h0⟩ (by simp)).mono ?_)
  · rintro s A B row ⟨ys, e, h⟩ hg hr
    exact ⟨ys, e, hJ ys A B row h hg hr⟩
  · rintro m pre x W1 hx ⟨ys, e, hj⟩ hlen
    obtain ⟨fn, tmps, assign, body, hy, hRd⟩ := hY ys ⟨x, hx⟩ W1 trivial hj (by rw [← e] at hlen; simpa using hlen)
    refine ⟨fn, tmps, assign, body, hy, (RoundIn.anyDepthC hRd).mono ?_⟩
    rintro r W2 (⟨h1, h2, h3⟩ | ⟨h1, h2, h3⟩)
    · exact .inl ⟨h1, ⟨_, by rw [List.map_append, e]; rfl, h2⟩, h3⟩
    · exact .inr ⟨h1, ⟨_, by rw [List.map_append, e]; rfl, h2⟩, h3⟩
  · intro k hk
    have := wSum_le ((is.zip fs).take k)
    rw [List.length_take, List.length_zip] at this
    exact ⟨hk, by omega, by simp only []; omega⟩
  · rintro r W' ⟨hr, ⟨ys, e, hj⟩ | ⟨q, hq, ys, e, hx⟩⟩
    · exact ⟨hr, .inl ⟨ys, by simpa using e, hj⟩⟩
    · exact ⟨hr, .inr ⟨ys, by show List.map (·.1) ys <+: _; rw [e]; simpa using hq, hx⟩⟩
end Go.Proofs.YtnooabgdcfegeaaDoor
