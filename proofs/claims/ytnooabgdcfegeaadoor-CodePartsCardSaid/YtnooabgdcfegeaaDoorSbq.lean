/-
  Proved here: lengthened, of a draft without branches. Conditions: where the draft lies; that it has none.
-/
import Derived.Test.YtnooabgdcfegeaaDoorSbp
import Derived.LoopN
namespace Go.Proofs.YtnooabgdcfegeaaDoor
open Go.RowKit Go.Shelf Go.ChangeMaps
set_option linter.unusedVariables false
set_option linter.unusedSimpArgs false
set_option maxRecDepth 100000
set_option maxHeartbeats 8000000
attribute [local go_sem] Oper.semAt_some
theorem set3r {w : World} {S : Nat} {t : TypeId} {a0 a1 a2 x0 x1 x2 : Value} (h : w.heap[S]? = some (.cells #[a0, a1, a2] t (0, 0))) :
    (((w.setCell ⟨S, 0, none⟩ x0).setCell ⟨S, 1, none⟩ x1).setCell ⟨S, 2, none⟩ x2).heap[S]? = some (.cells #[x0, x1, x2] t (0, 0)) := by
  have h0 : (w.setCell ⟨S, 0, none⟩ x0).heap[S]? = some (.cells #[x0, a1, a2] t (0, 0)) := by simpa using set_bkc h 0 x0
  have h1 : ((w.setCell ⟨S, 0, none⟩ x0).setCell ⟨S, 1, none⟩ x1).heap[S]? = some (.cells #[x0, x1, a2] t (0, 0)) := by simpa using set_bkc h0 1 x1
  simpa using set_bkc h1 2 x2
theorem row_sl {w : World} {base : Nat} {e : TypeId} {sz k : Nat} {s : Value} {xs : List Value} (h : w.ownsRow base e sz s k xs) : ∃ A cp, s = .slice A k cp := by
  rcases h.2 with ⟨rfl, h0⟩ | ⟨_, _, _, rfl, _⟩
  · exact ⟨_, _, by rw [h0]⟩
  · exact ⟨_, _, rfl⟩
theorem len_none (it : Option Addr) (b off cap g c2 : Nat) (base : Int) (hb0 : 0 ≤ base) (hb1 : base ≤ 1073741824) (is : List Itm) (fs : List Bool) (hit : is ≠ [] → it = some ⟨b, off, none⟩) (hfs : fs.length = is.length) (hcap : is.length ≤ cap) (hc2 : is.length ≤ c2) (hl : is.length ≤ 100000) (hv : ∀ i ∈ is, 0 ≤ i.2.2.2 ∧ i.2.2.2 < 18446744073709551616 ∧ ImOk i.2.1)
    (ob og : Obj) (w : World) (hob : w.heap[b]? = some ob) (hog : w.heap[g]? = some og) (hI : ItAt w b off is) (hF : FlAt w g fs) (hno : ∀ i ∈ is, i.1 ≠ 3) :
    Calls Tryd.prog 14 #[drV it is.length cap base g c2] w fun r w' => r = .returned (drV it is.length cap base g c2) ∧ Nb w w' := by
  have hmf : ∀ (fn : Fn) (first cap : Array Value) (w : World), (Instr.makeFunc fn first cap).run Tryd.prog w = .ok (.func fn first cap) w := fun _ _ _ _ => rfl
  have hsp := fun V (hV : Nb w V) => spans_any it b off cap g c2 base hb0 hb1 is fs hit hfs hcap hc2 hl hv ob og V (hV.block hob) (hV.block hog) (hI.nb hV) (hF.nb hV)
  have hz : ∀ f xs, spL is f xs = [] := by
    intro f xs
    unfold spL
    rw [List.flatMap_eq_nil_iff]
    intro x _
    unfold spS
    split
    · rename_i i hi
      rw [if_neg (hno i (List.mem_of_getElem? hi))]
    · rfl
  simp only [hz, List.length_nil, List.flatMap_nil] at hsp
  unfold drV at hsp ⊢
  replace hsp := Lib.hid hsp
  clear hit hfs hv hI hF hno hz hob hog
  go_enter Tryd.func14, Tryd.ntmps14
  go_upto_region 1 with (fail)
  obtain ⟨W1, hW1⟩ : ∃ W1, w.alloc (.cells #[.slice it is.length cap, .int .u64 base, .slice (some ⟨g, 0, none⟩) is.length c2] 48) = W1 := ⟨_, rfl⟩
  have n1 : Nb w W1 := by rw [← hW1]; exact Below.alloc (Below.refl _ _) (Nat.le_refl _) _
  have b1 : W1.heap[w.heap.size]? = some (.cells #[.slice it is.length cap, .int .u64 base, .slice (some ⟨g, 0, none⟩) is.length c2] 48 (0, 0)) := by rw [← hW1]; exact new_bkc _ _ rfl
  rw [hW1]
  have z1 : W1.heap.size = w.heap.size + 1 := by rw [← hW1, World.size_alloc]
  clear hW1
  obtain ⟨C2, hC2⟩ : ∃ C2, w.heap.size + 1 = C2 := ⟨_, rfl⟩
  rw [hC2] at z1 ⊢
  obtain ⟨W2, hW2⟩ : ∃ W2, W1.alloc (.cells #[.slice none 0 0, .int .u64 0, .slice none 0 0] 48) = W2 := ⟨_, rfl⟩
  have n2 : Nb W1 W2 := by rw [← hW2]; exact (Nb.refl _).alloc _
  have q2 : W2.heap[C2]? = some (.cells #[.slice none 0 0, .int .u64 0, .slice none 0 0] 48 (0, 0)) := by rw [← hW2]; exact new_bkc _ _ z1
  rw [hW2]
  clear hW2 z1
  have n12 := n1.trans n2
  replace b1 := n2.block b1
  clear n1 n2
  have c0 := cell_of_row _ _ 0 _ _ _ b1
  have c1 := cell_of_row _ _ 1 _ _ _ b1
  have c2' := cell_of_row _ _ 2 _ _ _ b1
  have hs2 := Lib.hid (hsp.out W2 n12)
  go_upto_region 2 with (go_at_call 31; refine hs2.out.mono ?_; rintro r W3 ⟨s, rfl, n3, hrow⟩; obtain ⟨A, cp, rfl⟩ := row_sl hrow)
  clear hrow hs2 hsp c0 c1 c2'
  have n13 := n12.trans n3
  replace b1 := n3.block b1
  replace q2 := n3.block q2
  clear n12 n3
  obtain ⟨BL, hBL⟩ : ∃ BL, W3.heap.size = BL := ⟨_, rfl⟩
  obtain ⟨W4, hW4⟩ : ∃ W4, W3.alloc (.cells #[.slice A 0 cp] 72) = W4 := ⟨_, rfl⟩
  have n4 : Nb W3 W4 := by rw [← hW4]; exact (Nb.refl _).alloc _
  have q4 : W4.heap[BL]? = some (.cells #[.slice A 0 cp] 72 (0, 0)) := by rw [← hW4, ← hBL]; exact new_bkc _ _ rfl
  have z4 : W4.heap.size = BL + 1 := by rw [← hW4, World.size_alloc, hBL]
  rw [hW4, hBL]
  clear hW4 hBL
  go_upto_region 3 with (fail)
  obtain ⟨BG, hBG⟩ : ∃ BG, BL + 1 = BG := ⟨_, rfl⟩
  rw [hBG] at z4 ⊢
  obtain ⟨W5, hW5⟩ : ∃ W5, W4.alloc (.cells #[.slice none 0 0] 74) = W5 := ⟨_, rfl⟩
  have n5 : Nb W4 W5 := by rw [← hW5]; exact (Nb.refl _).alloc _
  have q5 : W5.heap[BG]? = some (.cells #[.slice none 0 0] 74 (0, 0)) := by rw [← hW5]; exact new_bkc _ _ z4
  rw [hW5]
  clear hW5 z4
  have nW := n13.trans (n4.trans n5)
  replace b1 := (n4.trans n5).block b1
  replace q2 := (n4.trans n5).block q2
  replace q4 := n5.block q4
  clear n13 n4 n5
  have c0 := cell_of_row _ _ 0 _ _ _ b1
  have c1 := cell_of_row _ _ 1 _ _ _ b1
  have c2' := cell_of_row _ _ 2 _ _ _ b1
  have d0 := cell_of_row _ _ 0 _ _ _ q2
  have d1 := cell_of_row _ _ 1 _ _ _ q2
  have d2 := cell_of_row _ _ 2 _ _ _ q2
  have f0 := frozen_bkc q2 0
  have f1 := frozen_bkc q2 1
  have f2 := frozen_bkc q2 2
  have e0 := cell_of_row _ _ 0 _ _ _ q4
  have e1 := cell_of_row _ _ 0 _ _ _ q5
  have b1h := Lib.hid b1
  have q2h := Lib.hid q2
  have nWh := Lib.hid nW
  clear b1 q2 q4 q5
  go_wp2_with fail
  refine wp_loop_rounds 1 ?_
  rw [rounds_succ]
  go_wp2_with fail
  refine wp_loop_rounds 1 ?_
  rw [rounds_succ]
  go_wp2_with fail
  refine bodyPost_ret (results_cell_row rfl _ _ C2 48 _ (0, 0) _ rfl (set3r q2h.out) Tryd.underlying48 rfl (by kernel_rfl)) rfl ?_
  exact ⟨rfl, ((nWh.out.setCell (p := ⟨C2, 0, none⟩) (by show _ ≤ C2; omega) _).setCell (p := ⟨C2, 1, none⟩) (by show _ ≤ C2; omega) _).setCell (p := ⟨C2, 2, none⟩) (by show _ ≤ C2; omega) _⟩
end Go.Proofs.YtnooabgdcfegeaaDoor
