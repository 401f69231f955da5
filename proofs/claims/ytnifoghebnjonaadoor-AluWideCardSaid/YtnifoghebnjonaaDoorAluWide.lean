/-
  Proved here: what an operation of 32 bits gives of two numbers depends on their lowest 32 bits alone, and has bit 31 repeated. Condition: the table of codes holds what its text lays (the card ties it to the text).
-/
import Derived.Test.YtnifoghebnjonaaDoorCy
import Derived.Test.YtnifoghebnjonaaDoorCards
import Derived.Test.YtnifoghebnjonaaDoorTie
import Derived.SevenTiedAt
namespace Go.Proofs.YtnifoghebnjonaaDoor.aluWide
open Go.ChangeShapes Go.WideShapes Go.ChangeAt Go.RowKit
set_option linter.unusedVariables false
theorem keepS {w W : World} {n : Nat} {v0 v1 v2 v3 v4 v5 v6 : Value} (h : Nb w W) {W2 : World}
    (hS : Nb W2 w ∧ n < w.heap.size ∧ w.cell? ⟨n, 0, none⟩ = some v0 ∧ w.cell? ⟨n, 1, none⟩ = some v1 ∧ w.cell? ⟨n, 2, none⟩ = some v2 ∧ w.cell? ⟨n, 3, none⟩ = some v3 ∧ w.cell? ⟨n, 4, none⟩ = some v4 ∧ w.cell? ⟨n, 5, none⟩ = some v5 ∧ w.cell? ⟨n, 6, none⟩ = some v6) :
    Nb W2 W ∧ n < W.heap.size ∧ W.cell? ⟨n, 0, none⟩ = some v0 ∧ W.cell? ⟨n, 1, none⟩ = some v1 ∧ W.cell? ⟨n, 2, none⟩ = some v2 ∧ W.cell? ⟨n, 3, none⟩ = some v3 ∧ W.cell? ⟨n, 4, none⟩ = some v4 ∧ W.cell? ⟨n, 5, none⟩ = some v5 ∧ W.cell? ⟨n, 6, none⟩ = some v6 := by
  obtain ⟨h0, h1, c0, c1, c2, c3, c4, c5, c6⟩ := hS
  exact ⟨h0.trans h, Nat.lt_of_lt_of_le h1 h.size, h.cell c0, h.cell c1, h.cell c2, h.cell c3, h.cell c4, h.cell c5, h.cell c6⟩
theorem codS {w W2 : World} (hC : Cod W2) {R : Prop} (hS : Nb W2 w ∧ R) : Cod w := hC.of_nb hS.1
theorem in_of {x : Int} (h : (Lit.int .u64 x).wf = true) : InU x := by
  simp [Lit.wf, IntKind.min, IntKind.max, IntKind.signed, IntKind.bits] at h
  unfold InU; omega
theorem place_nb (x low n v : Int) (qx : InU x) (qv : InU v) (w : World) :
    Calls Tryd.prog 39 #[.int .u64 x, .int .i64 low, .int .i64 n, .int .u64 v] w fun e w' => e = .returned (.int .u64 (Plc x low n v)) ∧ Nb w w' :=
  (place_any x low n v qx.1 qx.2 qv.1 qv.2 w).mono fun _ _ ⟨h, q, k⟩ => ⟨h, k ▸ (Nb.refl _).drewN q⟩
theorem plc_mod (a x : Int) (qa : InU a) : Plc a 32 32 x % 4294967296 = a % 4294967296 := by
  obtain ⟨n, rfl⟩ := Int.eq_ofNat_of_zero_le qa.1
  unfold Plc
  rw [show wid 32 32 = 32 from by decide]
  simp only [plc, Int.toNat_natCast, show ((32 : Int).toNat) = 32 from rfl, show (2 : Nat) ^ 32 = 4294967296 by decide, show (2 : Nat) ^ (32 + 32) = 18446744073709551616 by decide]
  generalize x.toNat % 4294967296 = z
  generalize n / 18446744073709551616 = u
  omega
theorem in_plc (a x : Int) (qa : InU a) : InU (Plc a 32 32 x) := plc_w a 32 32 x qa.1 qa.2
theorem sgn_plc (a x : Int) (qa : InU a) : Sgn (Plc a 32 32 x) 32 = Sgn a 32 := sgn_cong _ _ (in_plc a x qa).1 qa.1 (plc_mod a x qa)
theorem fld_plc (a x : Int) (qa : InU a) : Fld (Plc a 32 32 x) 0 32 = Fld a 0 32 := by rw [fld32 _ (in_plc a x qa).1, fld32 a qa.1, plc_mod a x qa]
theorem sgn_again (z : Int) (qz : InU z) : Sgn (Sgn z 32) 32 = Sgn z 32 := sgn_cong _ _ (in_sgn z 32 qz).1 qz.1 (sgn_m z qz.1)
/-- What 32 bits give. -/
def Narrow (op : Int) : Prop := op = 41 ∨ op = 42 ∨ op = 43 ∨ op = 44 ∨ op = 45 ∨ op = 46 ∨ op = 47 ∨ op = 48 ∨ op = 49 ∨ op = 61 ∨ op = 62 ∨ op = 63 ∨ op = 64 ∨ op = 65
theorem vb_same (op im pc a b x y : Int) (qa : InU a) (qb : InU b) (h : Narrow op) : VB op im pc (Plc a 32 32 x) (Plc b 32 32 y) = VB op im pc a b := by
  have e1 := sgn_plc a x qa
  have e2 := sgn_plc b y qb
  have e3 := fld_plc a x qa
  have e4 := fld_plc b y qb
  have e5 : ∀ op a b, WB op a b = WB op a b := fun _ _ _ => rfl
  rcases h with rfl | rfl | rfl | rfl | rfl | rfl | rfl | rfl | rfl | rfl | rfl | rfl | rfl | rfl
  · show Sgn (IntKind.u64.wrap ((Sgn (Plc a 32 32 x) 32) + (Sgn (IntKind.u64.wrap im) 32))) 32 = Sgn (IntKind.u64.wrap ((Sgn a 32) + (Sgn (IntKind.u64.wrap im) 32))) 32
    rw [e1]
  · show Sgn (IntKind.u64.wrap ((Fld (Plc a 32 32 x) 0 32) * 2 ^ ((Fld (IntKind.u64.wrap im) 0 32) % 32).toNat)) 32 = Sgn (IntKind.u64.wrap ((Fld a 0 32) * 2 ^ ((Fld (IntKind.u64.wrap im) 0 32) % 32).toNat)) 32
    rw [e3]
  · show Sgn ((Fld (Plc a 32 32 x) 0 32) / 2 ^ ((Fld (IntKind.u64.wrap im) 0 32) % 32).toNat) 32 = Sgn ((Fld a 0 32) / 2 ^ ((Fld (IntKind.u64.wrap im) 0 32) % 32).toNat) 32
    rw [e3]
  · show Sgn (Sar (Sgn (Plc a 32 32 x) 32) (Sgn (IntKind.u64.wrap im) 32) 32) 32 = Sgn (Sar (Sgn a 32) (Sgn (IntKind.u64.wrap im) 32) 32) 32
    rw [e1]
  · show Sgn (IntKind.u64.wrap ((Sgn (Plc a 32 32 x) 32) + (Sgn (Plc b 32 32 y) 32))) 32 = Sgn (IntKind.u64.wrap ((Sgn a 32) + (Sgn b 32))) 32
    rw [e1, e2]
  · show Sgn (IntKind.u64.wrap ((Sgn (Plc a 32 32 x) 32) - (Sgn (Plc b 32 32 y) 32))) 32 = Sgn (IntKind.u64.wrap ((Sgn a 32) - (Sgn b 32))) 32
    rw [e1, e2]
  · show Sgn (IntKind.u64.wrap ((Fld (Plc a 32 32 x) 0 32) * 2 ^ ((Fld (Plc b 32 32 y) 0 32) % 32).toNat)) 32 = Sgn (IntKind.u64.wrap ((Fld a 0 32) * 2 ^ ((Fld b 0 32) % 32).toNat)) 32
    rw [e3, e4]
  · show Sgn ((Fld (Plc a 32 32 x) 0 32) / 2 ^ ((Fld (Plc b 32 32 y) 0 32) % 32).toNat) 32 = Sgn ((Fld a 0 32) / 2 ^ ((Fld b 0 32) % 32).toNat) 32
    rw [e3, e4]
  · show Sgn (Sar (Sgn (Plc a 32 32 x) 32) (Sgn (Plc b 32 32 y) 32) 32) 32 = Sgn (Sar (Sgn a 32) (Sgn b 32) 32) 32
    rw [e1, e2]
  · show Sgn (IntKind.u64.wrap ((Sgn (Plc a 32 32 x) 32) * (Sgn (Plc b 32 32 y) 32))) 32 = Sgn (IntKind.u64.wrap ((Sgn a 32) * (Sgn b 32))) 32
    rw [e1, e2]
  · show Sgn (_root_.Go.Proofs.YtnifoghebnjonaaDoor.Quo (Sgn (Plc a 32 32 x) 32) (Sgn (Plc b 32 32 y) 32) true) 32 = Sgn (_root_.Go.Proofs.YtnifoghebnjonaaDoor.Quo (Sgn a 32) (Sgn b 32) true) 32
    rw [e1, e2]
  · show Sgn (_root_.Go.Proofs.YtnifoghebnjonaaDoor.Quo (Fld (Plc a 32 32 x) 0 32) (Fld (Plc b 32 32 y) 0 32) false) 32 = Sgn (_root_.Go.Proofs.YtnifoghebnjonaaDoor.Quo (Fld a 0 32) (Fld b 0 32) false) 32
    rw [e3, e4]
  · show Sgn (_root_.Go.Proofs.YtnifoghebnjonaaDoor.Rem (Sgn (Plc a 32 32 x) 32) (Sgn (Plc b 32 32 y) 32) true) 32 = Sgn (_root_.Go.Proofs.YtnifoghebnjonaaDoor.Rem (Sgn a 32) (Sgn b 32) true) 32
    rw [e1, e2]
  · show Sgn (_root_.Go.Proofs.YtnifoghebnjonaaDoor.Rem (Fld (Plc a 32 32 x) 0 32) (Fld (Plc b 32 32 y) 0 32) false) 32 = Sgn (_root_.Go.Proofs.YtnifoghebnjonaaDoor.Rem (Fld a 0 32) (Fld b 0 32) false) 32
    rw [e3, e4]
theorem vb_sign (op im pc a b : Int) (qa : InU a) (qb : InU b) (h : Narrow op) : Sgn (VB op im pc a b) 32 = VB op im pc a b := by
  have qi := in_wrap im
  rcases h with rfl | rfl | rfl | rfl | rfl | rfl | rfl | rfl | rfl | rfl | rfl | rfl | rfl | rfl
  · exact sgn_again _ (res_sum _ _ (in_sgn _ 32 qa) (in_sgn _ 32 qi))
  · exact sgn_again _ (res_shl _ _ 32 (in_fld _ 0 32 qa) (in_fld _ 0 32 qi))
  · exact sgn_again _ (res_shr _ _ 32 (in_fld _ 0 32 qa) (in_fld _ 0 32 qi))
  · exact sgn_again _ (res_sar _ _ 32 (in_sgn _ 32 qa) (in_sgn _ 32 qi))
  · exact sgn_again _ (res_sum _ _ (in_sgn _ 32 qa) (in_sgn _ 32 qb))
  · exact sgn_again _ (res_difference _ _ (in_sgn _ 32 qa) (in_sgn _ 32 qb))
  · exact sgn_again _ (res_shl _ _ 32 (in_fld _ 0 32 qa) (in_fld _ 0 32 qb))
  · exact sgn_again _ (res_shr _ _ 32 (in_fld _ 0 32 qa) (in_fld _ 0 32 qb))
  · exact sgn_again _ (res_sar _ _ 32 (in_sgn _ 32 qa) (in_sgn _ 32 qb))
  · exact sgn_again _ (res_product _ _ (in_sgn _ 32 qa) (in_sgn _ 32 qb))
  · exact sgn_again _ (res_quoSigned _ _ (in_sgn _ 32 qa) (in_sgn _ 32 qb))
  · exact sgn_again _ (res_quo _ _ (in_fld _ 0 32 qa) (in_fld _ 0 32 qb))
  · exact sgn_again _ (res_remSigned _ _ (in_sgn _ 32 qa) (in_sgn _ 32 qb))
  · exact sgn_again _ (res_rem _ _ (in_fld _ 0 32 qa) (in_fld _ 0 32 qb))
theorem vb_in (op im pc a b : Int) (qa : InU a) (qb : InU b) (h : Narrow op) : InU (VB op im pc a b) := by
  have qi := in_wrap im
  rcases h with rfl | rfl | rfl | rfl | rfl | rfl | rfl | rfl | rfl | rfl | rfl | rfl | rfl | rfl
  · exact in_sgn _ 32 (res_sum _ _ (in_sgn _ 32 qa) (in_sgn _ 32 qi))
  · exact in_sgn _ 32 (res_shl _ _ 32 (in_fld _ 0 32 qa) (in_fld _ 0 32 qi))
  · exact in_sgn _ 32 (res_shr _ _ 32 (in_fld _ 0 32 qa) (in_fld _ 0 32 qi))
  · exact in_sgn _ 32 (res_sar _ _ 32 (in_sgn _ 32 qa) (in_sgn _ 32 qi))
  · exact in_sgn _ 32 (res_sum _ _ (in_sgn _ 32 qa) (in_sgn _ 32 qb))
  · exact in_sgn _ 32 (res_difference _ _ (in_sgn _ 32 qa) (in_sgn _ 32 qb))
  · exact in_sgn _ 32 (res_shl _ _ 32 (in_fld _ 0 32 qa) (in_fld _ 0 32 qb))
  · exact in_sgn _ 32 (res_shr _ _ 32 (in_fld _ 0 32 qa) (in_fld _ 0 32 qb))
  · exact in_sgn _ 32 (res_sar _ _ 32 (in_sgn _ 32 qa) (in_sgn _ 32 qb))
  · exact in_sgn _ 32 (res_product _ _ (in_sgn _ 32 qa) (in_sgn _ 32 qb))
  · exact in_sgn _ 32 (res_quoSigned _ _ (in_sgn _ 32 qa) (in_sgn _ 32 qb))
  · exact in_sgn _ 32 (res_quo _ _ (in_fld _ 0 32 qa) (in_fld _ 0 32 qb))
  · exact in_sgn _ 32 (res_remSigned _ _ (in_sgn _ 32 qa) (in_sgn _ 32 qb))
  · exact in_sgn _ 32 (res_rem _ _ (in_fld _ 0 32 qa) (in_fld _ 0 32 qb))
theorem vx_same (op rd rs1 rs2 im : Int) (aq rl : Bool) (pc a b x y : Int) (qa : InU a) (qb : InU b) (h : Narrow op) :
    VX op rd rs1 rs2 im aq rl pc (Plc a 32 32 x) (Plc b 32 32 y) = VX op rd rs1 rs2 im aq rl pc a b := by
  unfold VX; rw [vb_same op im pc a b x y qa qb h]
theorem vx_sign (op rd rs1 rs2 im : Int) (aq rl : Bool) (pc a b : Int) (qa : InU a) (qb : InU b) (h : Narrow op) :
    Sgn (VX op rd rs1 rs2 im aq rl pc a b) 32 = VX op rd rs1 rs2 im aq rl pc a b := by
  unfold VX; split
  · split
    · exact vb_sign op im pc a b qa qb h
    · decide +kernel
  · decide +kernel
theorem vx_in (op rd rs1 rs2 im : Int) (aq rl : Bool) (pc a b : Int) (qa : InU a) (qb : InU b) (h : Narrow op) : InU (VX op rd rs1 rs2 im aq rl pc a b) := by
  unfold VX; split
  · split
    · exact vb_in op im pc a b qa qb h
    · exact ⟨by decide, by decide⟩
  · exact ⟨by decide, by decide⟩
set_option maxRecDepth 100000 in
set_option maxHeartbeats 4000000 in
theorem walk_in (op rd rs1 rs2 im : Int) (aq rl : Bool) (pc a b x y v f : Int) (k1 : ¬ op < 41) (k2 : ¬ 49 < op) (qa : InU a) (qb : InU b) (qx : InU x) (qy : InU y) (qv : InU v) (HS : Hid (Sgn v 32 = v))
    (H1 : Hid (∀ w, Cod w → Calls Tryd.prog 26 #[.agg #[.int .i64 op, .int .i64 rd, .int .i64 rs1, .int .i64 rs2, .int .i64 im, .bool aq, .bool rl], .int .u64 pc, .int .u64 a, .int .u64 b] w fun e w' => e = .returned (.tuple #[.int .u64 v, .int .i64 f]) ∧ Nb w w'))
    (H2 : Hid (∀ w, Cod w → Calls Tryd.prog 26 #[.agg #[.int .i64 op, .int .i64 rd, .int .i64 rs1, .int .i64 rs2, .int .i64 im, .bool aq, .bool rl], .int .u64 pc, .int .u64 (Plc a 32 32 x), .int .u64 (Plc b 32 32 y)] w fun e w' => e = .returned (.tuple #[.int .u64 v, .int .i64 f]) ∧ Nb w w')) (w : World) (hC : Cod w) :
    Calls Tryd.prog 11 #[.agg #[.int .i64 op, .int .i64 rd, .int .i64 rs1, .int .i64 rs2, .int .i64 im, .bool aq, .bool rl], .int .u64 pc, .int .u64 a, .int .u64 b, .int .u64 x, .int .u64 y] w fun e w' => e = .returned (.bool true) ∧ Nb w w' := by
  go_enter Tryd.func11, Tryd.ntmps11
  go_wp2_with fail
  obtain ⟨W1, hW⟩ : ∃ W1, w.alloc (.cells #[.int .i64 op, .int .i64 rd, .int .i64 rs1, .int .i64 rs2, .int .i64 im, .bool aq, .bool rl] 23) = W1 := ⟨_, rfl⟩
  have hb := blk_made w _ hW rfl
  have hN : Nb w W1 := by rw [← hW]; exact (Nb.refl _).alloc _
  rw [hW]
  clear hW
  refine (H1.out _ (hC.of_nb hN)).mono ?_
  rintro e W2 ⟨rfl, hn⟩
  have hN1 := hN.trans hn
  have hC1 := hC.of_nb hN1
  obtain ⟨n1, c0, c1, c2, c3, c4, c5, c6⟩ := cells7 (Nb.block hn hb)
  clear hb hn hN hC
  go_wp2_with fail
  go_region_held3 (fun w' => Nb W2 w' ∧ w.heap.size < w'.heap.size ∧ w'.cell? ⟨w.heap.size, 0, none⟩ = some (.int .i64 op) ∧ w'.cell? ⟨w.heap.size, 1, none⟩ = some (.int .i64 rd) ∧ w'.cell? ⟨w.heap.size, 2, none⟩ = some (.int .i64 rs1) ∧ w'.cell? ⟨w.heap.size, 3, none⟩ = some (.int .i64 rs2) ∧ w'.cell? ⟨w.heap.size, 4, none⟩ = some (.int .i64 im) ∧ w'.cell? ⟨w.heap.size, 5, none⟩ = some (.bool aq) ∧ w'.cell? ⟨w.heap.size, 6, none⟩ = some (.bool rl))
    (first | assumption | (exact keepS (by assumption) (by assumption)) | (exact ⟨(Nb.refl _).drewN 1, n1, c0, c1, c2, c3, c4, c5, c6⟩))
    (first
      | (go_at_call 39; refine (place_nb _ _ _ _ (by assumption) (by assumption) _).mono ?_; rintro e w1 ⟨rfl, hp⟩)
      | (go_at_call 26; refine (H2.out _ (codS hC1 (by assumption))).mono ?_; rintro e w1 ⟨rfl, hq⟩))
  rename_i hH
  have hN2 := hN1.trans hH.1
  have hC2 := codS hC1 hH
  clear hH n1 c0 c1 c2 c3 c4 c5 c6 hN1 hC1
  go_wp2_with fail
  refine (sign_any _ _ qv.1 qv.2 _).mono ?_
  rintro e w' ⟨rfl, rfl⟩
  rw [HS.out]
  go_wp2_with fail
  refine (alives_any _ hC2).mono ?_
  rintro e w1 ⟨rfl, hn⟩
  go_wp2_with fail
  go_ret
  exact ⟨rfl, hN2.trans hn⟩
set_option maxRecDepth 100000 in
set_option maxHeartbeats 4000000 in
theorem walk_lo (op rd rs1 rs2 im : Int) (aq rl : Bool) (pc a b x y v f : Int) (k1 : op < 41) (qa : InU a) (qb : InU b) (qx : InU x) (qy : InU y) (qv : InU v) (HS : Hid (Sgn v 32 = v))
    (H1 : Hid (∀ w, Cod w → Calls Tryd.prog 26 #[.agg #[.int .i64 (wrap64 (61 + wrap64 ((IntKind.u64.wrap op).tmod 5))), .int .i64 rd, .int .i64 rs1, .int .i64 rs2, .int .i64 0, .bool aq, .bool rl], .int .u64 pc, .int .u64 a, .int .u64 b] w fun e w' => e = .returned (.tuple #[.int .u64 v, .int .i64 f]) ∧ Nb w w'))
    (H2 : Hid (∀ w, Cod w → Calls Tryd.prog 26 #[.agg #[.int .i64 (wrap64 (61 + wrap64 ((IntKind.u64.wrap op).tmod 5))), .int .i64 rd, .int .i64 rs1, .int .i64 rs2, .int .i64 0, .bool aq, .bool rl], .int .u64 pc, .int .u64 (Plc a 32 32 x), .int .u64 (Plc b 32 32 y)] w fun e w' => e = .returned (.tuple #[.int .u64 v, .int .i64 f]) ∧ Nb w w')) (w : World) (hC : Cod w) :
    Calls Tryd.prog 11 #[.agg #[.int .i64 op, .int .i64 rd, .int .i64 rs1, .int .i64 rs2, .int .i64 im, .bool aq, .bool rl], .int .u64 pc, .int .u64 a, .int .u64 b, .int .u64 x, .int .u64 y] w fun e w' => e = .returned (.bool true) ∧ Nb w w' := by
  go_enter Tryd.func11, Tryd.ntmps11
  go_wp2_with fail
  generalize wrap64 (61 + wrap64 ((IntKind.u64.wrap op).tmod 5)) = kk at *
  obtain ⟨W1, hW⟩ : ∃ W1, w.alloc (.cells #[.int .i64 kk, .int .i64 rd, .int .i64 rs1, .int .i64 rs2, .int .i64 0, .bool aq, .bool rl] 23) = W1 := ⟨_, rfl⟩
  have hb := blk_made w _ hW rfl
  have hN : Nb w W1 := by rw [← hW]; exact (Nb.refl _).alloc _
  rw [hW]
  clear hW
  refine (H1.out _ (hC.of_nb hN)).mono ?_
  rintro e W2 ⟨rfl, hn⟩
  have hN1 := hN.trans hn
  have hC1 := hC.of_nb hN1
  obtain ⟨n1, c0, c1, c2, c3, c4, c5, c6⟩ := cells7 (Nb.block hn hb)
  clear hb hn hN hC
  go_wp2_with fail
  go_region_held3 (fun w' => Nb W2 w' ∧ w.heap.size < w'.heap.size ∧ w'.cell? ⟨w.heap.size, 0, none⟩ = some (.int .i64 kk) ∧ w'.cell? ⟨w.heap.size, 1, none⟩ = some (.int .i64 rd) ∧ w'.cell? ⟨w.heap.size, 2, none⟩ = some (.int .i64 rs1) ∧ w'.cell? ⟨w.heap.size, 3, none⟩ = some (.int .i64 rs2) ∧ w'.cell? ⟨w.heap.size, 4, none⟩ = some (.int .i64 0) ∧ w'.cell? ⟨w.heap.size, 5, none⟩ = some (.bool aq) ∧ w'.cell? ⟨w.heap.size, 6, none⟩ = some (.bool rl))
    (first | assumption | (exact keepS (by assumption) (by assumption)) | (exact ⟨(Nb.refl _).drewN 1, n1, c0, c1, c2, c3, c4, c5, c6⟩))
    (first
      | (go_at_call 39; refine (place_nb _ _ _ _ (by assumption) (by assumption) _).mono ?_; rintro e w1 ⟨rfl, hp⟩)
      | (go_at_call 26; refine (H2.out _ (codS hC1 (by assumption))).mono ?_; rintro e w1 ⟨rfl, hq⟩))
  rename_i hH
  have hN2 := hN1.trans hH.1
  have hC2 := codS hC1 hH
  clear hH n1 c0 c1 c2 c3 c4 c5 c6 hN1 hC1
  go_wp2_with fail
  refine (sign_any _ _ qv.1 qv.2 _).mono ?_
  rintro e w' ⟨rfl, rfl⟩
  rw [HS.out]
  go_wp2_with fail
  refine (alives_any _ hC2).mono ?_
  rintro e w1 ⟨rfl, hn⟩
  go_wp2_with fail
  go_ret
  exact ⟨rfl, hN2.trans hn⟩
set_option maxRecDepth 100000 in
set_option maxHeartbeats 4000000 in
theorem walk_hi (op rd rs1 rs2 im : Int) (aq rl : Bool) (pc a b x y v f : Int) (k1 : ¬ op < 41) (k2 : 49 < op) (qa : InU a) (qb : InU b) (qx : InU x) (qy : InU y) (qv : InU v) (HS : Hid (Sgn v 32 = v))
    (H1 : Hid (∀ w, Cod w → Calls Tryd.prog 26 #[.agg #[.int .i64 (wrap64 (61 + wrap64 ((IntKind.u64.wrap op).tmod 5))), .int .i64 rd, .int .i64 rs1, .int .i64 rs2, .int .i64 0, .bool aq, .bool rl], .int .u64 pc, .int .u64 a, .int .u64 b] w fun e w' => e = .returned (.tuple #[.int .u64 v, .int .i64 f]) ∧ Nb w w'))
    (H2 : Hid (∀ w, Cod w → Calls Tryd.prog 26 #[.agg #[.int .i64 (wrap64 (61 + wrap64 ((IntKind.u64.wrap op).tmod 5))), .int .i64 rd, .int .i64 rs1, .int .i64 rs2, .int .i64 0, .bool aq, .bool rl], .int .u64 pc, .int .u64 (Plc a 32 32 x), .int .u64 (Plc b 32 32 y)] w fun e w' => e = .returned (.tuple #[.int .u64 v, .int .i64 f]) ∧ Nb w w')) (w : World) (hC : Cod w) :
    Calls Tryd.prog 11 #[.agg #[.int .i64 op, .int .i64 rd, .int .i64 rs1, .int .i64 rs2, .int .i64 im, .bool aq, .bool rl], .int .u64 pc, .int .u64 a, .int .u64 b, .int .u64 x, .int .u64 y] w fun e w' => e = .returned (.bool true) ∧ Nb w w' := by
  go_enter Tryd.func11, Tryd.ntmps11
  go_wp2_with fail
  generalize wrap64 (61 + wrap64 ((IntKind.u64.wrap op).tmod 5)) = kk at *
  obtain ⟨W1, hW⟩ : ∃ W1, w.alloc (.cells #[.int .i64 kk, .int .i64 rd, .int .i64 rs1, .int .i64 rs2, .int .i64 0, .bool aq, .bool rl] 23) = W1 := ⟨_, rfl⟩
  have hb := blk_made w _ hW rfl
  have hN : Nb w W1 := by rw [← hW]; exact (Nb.refl _).alloc _
  rw [hW]
  clear hW
  refine (H1.out _ (hC.of_nb hN)).mono ?_
  rintro e W2 ⟨rfl, hn⟩
  have hN1 := hN.trans hn
  have hC1 := hC.of_nb hN1
  obtain ⟨n1, c0, c1, c2, c3, c4, c5, c6⟩ := cells7 (Nb.block hn hb)
  clear hb hn hN hC
  go_wp2_with fail
  go_region_held3 (fun w' => Nb W2 w' ∧ w.heap.size < w'.heap.size ∧ w'.cell? ⟨w.heap.size, 0, none⟩ = some (.int .i64 kk) ∧ w'.cell? ⟨w.heap.size, 1, none⟩ = some (.int .i64 rd) ∧ w'.cell? ⟨w.heap.size, 2, none⟩ = some (.int .i64 rs1) ∧ w'.cell? ⟨w.heap.size, 3, none⟩ = some (.int .i64 rs2) ∧ w'.cell? ⟨w.heap.size, 4, none⟩ = some (.int .i64 0) ∧ w'.cell? ⟨w.heap.size, 5, none⟩ = some (.bool aq) ∧ w'.cell? ⟨w.heap.size, 6, none⟩ = some (.bool rl))
    (first | assumption | (exact keepS (by assumption) (by assumption)) | (exact ⟨(Nb.refl _).drewN 1, n1, c0, c1, c2, c3, c4, c5, c6⟩))
    (first
      | (go_at_call 39; refine (place_nb _ _ _ _ (by assumption) (by assumption) _).mono ?_; rintro e w1 ⟨rfl, hp⟩)
      | (go_at_call 26; refine (H2.out _ (codS hC1 (by assumption))).mono ?_; rintro e w1 ⟨rfl, hq⟩))
  rename_i hH
  have hN2 := hN1.trans hH.1
  have hC2 := codS hC1 hH
  clear hH n1 c0 c1 c2 c3 c4 c5 c6 hN1 hC1
  go_wp2_with fail
  refine (sign_any _ _ qv.1 qv.2 _).mono ?_
  rintro e w' ⟨rfl, rfl⟩
  rw [HS.out]
  go_wp2_with fail
  refine (alives_any _ hC2).mono ?_
  rintro e w1 ⟨rfl, hn⟩
  go_wp2_with fail
  go_ret
  exact ⟨rfl, hN2.trans hn⟩
theorem kk_narrow (op : Int) : Narrow (wrap64 (61 + wrap64 ((IntKind.u64.wrap op).tmod 5))) := by
  obtain ⟨a, b⟩ := in_wrap op
  generalize IntKind.u64.wrap op = z at *
  have h : z.tmod 5 = z % 5 := Int.tmod_eq_emod_of_nonneg a
  rw [h, IntWalk.wrap64_in (z % 5) (by omega), IntWalk.wrap64_in (61 + z % 5) (by omega)]
  unfold Narrow
  omega
theorem walk (op rd rs1 rs2 im : Int) (aq rl : Bool) (pc a b x y : Int) (wi : -9223372036854775808 ≤ im ∧ im < 9223372036854775808) (qp : InU pc) (qa : InU a) (qb : InU b) (qx : InU x) (qy : InU y) (w : World) (hC : Cod w) :
    Calls Tryd.prog 11 #[instV op rd rs1 rs2 im aq rl, .int .u64 pc, .int .u64 a, .int .u64 b, .int .u64 x, .int .u64 y] w fun e w' => e = .returned (.bool true) ∧ Nb w w' := by
  unfold instV
  by_cases k1 : op < 41
  · have hk := kk_narrow op
    have H2 := val_any (wrap64 (61 + wrap64 ((IntKind.u64.wrap op).tmod 5))) rd rs1 rs2 0 pc (Plc a 32 32 x) (Plc b 32 32 y) aq rl (in_plc a x qa) (in_plc b y qb) (by decide) (by decide)
    rw [vx_same _ _ _ _ _ _ _ _ _ _ _ _ qa qb hk] at H2
    exact walk_lo op rd rs1 rs2 im aq rl pc a b x y _ _ k1 qa qb qx qy (vx_in _ _ _ _ _ _ _ _ _ _ qa qb hk) (Lib.hid (vx_sign _ _ _ _ _ _ _ _ _ _ qa qb hk)) (Lib.hid (val_any (wrap64 (61 + wrap64 ((IntKind.u64.wrap op).tmod 5))) rd rs1 rs2 0 pc a b aq rl qa qb (by decide) (by decide))) (Lib.hid H2) w hC
  by_cases k2 : 49 < op
  · have hk := kk_narrow op
    have H2 := val_any (wrap64 (61 + wrap64 ((IntKind.u64.wrap op).tmod 5))) rd rs1 rs2 0 pc (Plc a 32 32 x) (Plc b 32 32 y) aq rl (in_plc a x qa) (in_plc b y qb) (by decide) (by decide)
    rw [vx_same _ _ _ _ _ _ _ _ _ _ _ _ qa qb hk] at H2
    exact walk_hi op rd rs1 rs2 im aq rl pc a b x y _ _ k1 k2 qa qb qx qy (vx_in _ _ _ _ _ _ _ _ _ _ qa qb hk) (Lib.hid (vx_sign _ _ _ _ _ _ _ _ _ _ qa qb hk)) (Lib.hid (val_any (wrap64 (61 + wrap64 ((IntKind.u64.wrap op).tmod 5))) rd rs1 rs2 0 pc a b aq rl qa qb (by decide) (by decide))) (Lib.hid H2) w hC
  · have hk : Narrow op := by unfold Narrow; omega
    have H2 := val_any op rd rs1 rs2 im pc (Plc a 32 32 x) (Plc b 32 32 y) aq rl (in_plc a x qa) (in_plc b y qb) wi.1 wi.2
    rw [vx_same _ _ _ _ _ _ _ _ _ _ _ _ qa qb hk] at H2
    exact walk_in op rd rs1 rs2 im aq rl pc a b x y _ _ k1 k2 qa qb qx qy (vx_in _ _ _ _ _ _ _ _ _ _ qa qb hk) (Lib.hid (vx_sign _ _ _ _ _ _ _ _ _ _ qa qb hk)) (Lib.hid (val_any op rd rs1 rs2 im pc a b aq rl qa qb wi.1 wi.2)) (Lib.hid H2) w hC
/-! The row's step. -/
set_option maxRecDepth 100000 in
set_option maxHeartbeats 1000000 in
theorem lifted (os : Os) (started : os.Started) (H : Type) (enc : TypeId × Value → H) :
    ReturnsInHanded {} Tryd.checked os 11 .any (fun w args => (Rows.aluWideSpec.pre enc Tryd.prog Tryd.f11 [] false w args ∧ laidMetH Tryd.prog laidL w) ∧ sizedMet enc Tryd.prog Tryd.f11 (OpenSpec.ofChange Rows.aluWideSpec) false w args)
      (Rows.aluWideSpec.post enc Tryd.prog Tryd.f11 false true false false) := by
  refine returnsInHanded_of_change_and (C := Tryd.checked) (X := fun w _ => laidMetH Tryd.prog laidL w) (fun _ _ _ hh h => h.of_heap hh) own started (by kernel_rfl) Tryd.func11
    (ChangeSpec.witness_shaped (enc := enc) (C := Tryd.checked) (os := os) (X := fun w _ => laidMetH Tryd.prog laidL w) false (World.doorLaid Tryd.prog 400 os) #[.agg #[.int .i64 0, .int .i64 0, .int .i64 0, .int .i64 0, .int .i64 0, .bool false, .bool false], .int .u64 0, .int .u64 0, .int .u64 0, .int .u64 0, .int .u64 0] 8 rfl (World.shaped_of_RefB (by kernel_rfl) (by kernel_rfl)) (by kernel_rfl) (by kernel_rfl) (by kernel_rfl) (door_met os _)) ?_
  intro W base args ds gs before hval0 hW _ _ hL _
  have hval : ∀ (j : Nat) t v, Tryd.f11.params[j]? = some t → args[j]? = some v → Value.okWide Tryd.prog W .any base t v := hval0
  have hW' := hW
  obtain ⟨p, q, hA0, hV, rfl, hfz, hnd⟩ := hW
  have hA : DataW.TrodAll enc Tryd.prog W 0 (fun _ => true) true Tryd.f11.params.toList args.toList ds p := hA0
  rw [Tryd.params11] at hA hval
  obtain ⟨v0, vs0, d0, ds0, p0, q0, hargs0, rfl, rfl, h0, r0⟩ := trodAll_cons hA
  obtain ⟨v1, vs1, d1, ds1, p1, q1, hargs1, rfl, rfl, h1, r1⟩ := trodAll_cons r0
  obtain ⟨v2, vs2, d2, ds2, p2, q2, hargs2, rfl, rfl, h2, r2⟩ := trodAll_cons r1
  obtain ⟨v3, vs3, d3, ds3, p3, q3, hargs3, rfl, rfl, h3, r3⟩ := trodAll_cons r2
  obtain ⟨v4, vs4, d4, ds4, p4, q4, hargs4, rfl, rfl, h4, r4⟩ := trodAll_cons r3
  obtain ⟨v5, vs5, d5, ds5, p5, q5, hargs5, rfl, rfl, h5, r5⟩ := trodAll_cons r4
  obtain ⟨rfl, rfl, rfl⟩ := trodAll_nil r5
  obtain rfl : args = #[v0, v1, v2, v3, v4, v5] := by cases args; simp_all
  obtain ⟨rfl, rfl⟩ := trodVars_none hV
  obtain ⟨op0, rd0, rsa0, rsb0, im0, aq0, rl0, rfl, rfl, rfl, wo0, wr0, wa0, wb0, wi0⟩ := open_inst (hval 0 23 v0 rfl rfl) h0
  obtain ⟨n1, rfl, rfl, rfl, w1⟩ := open_int Tryd.underlying43 (hval 1 43 v1 rfl rfl) h1
  obtain ⟨n2, rfl, rfl, rfl, w2⟩ := open_int Tryd.underlying43 (hval 2 43 v2 rfl rfl) h2
  obtain ⟨n3, rfl, rfl, rfl, w3⟩ := open_int Tryd.underlying43 (hval 3 43 v3 rfl rfl) h3
  obtain ⟨n4, rfl, rfl, rfl, w4⟩ := open_int Tryd.underlying43 (hval 4 43 v4 rfl rfl) h4
  obtain ⟨n5, rfl, rfl, rfl, w5⟩ := open_int Tryd.underlying43 (hval 5 43 v5 rfl rfl) h5
  clear hA0 hval0
  simp only [List.append_nil] at hW'
  refine (walk op0 rd0 rsa0 rsb0 im0 aq0 rl0 n1 n2 n3 n4 n5 (i64_of wi0) (in_of w1) (in_of w2) (in_of w3) (in_of w4) (in_of w5) W (cod_of_laid hL)).mono fun e W' ⟨he, hg⟩ => ?_
  subst he
  exact ⟨_, rfl, post_of_nb (pa := []) (pv := []) hW' (fun _ _ _ => (trodAll_cons_mk (shut_bool Tryd.underlying4 _) trodAll_mk0)) (fun sp _ => (trodAll_cons_mk (shut_inst wo0 wr0 wa0 wb0 wi0) (trodAll_cons_mk (shut_int Tryd.underlying43 w1) (trodAll_cons_mk (shut_int Tryd.underlying43 w2) (trodAll_cons_mk (shut_int Tryd.underlying43 w3) (trodAll_cons_mk (shut_int Tryd.underlying43 w4) (trodAll_cons_mk (shut_int Tryd.underlying43 w5) trodAll_mk0))))))) (fun _ _ => rfl) rfl
    hg (ok_one (by kernel_rfl) rfl (okWide_bool_mk Tryd.underlying4 _))⟩
theorem over : Rows.AluWideSaid :=
  OpenClaim.holds_of_wide 11 Tryd.f11 rfl rfl rfl rfl rfl rfl rfl ⟨rfl, rfl, rfl, rfl, rfl⟩ rfl rfl rfl rfl rfl (by kernel_rfl) Tryd.func11 (by kernel_rfl)
    (of_decide_eq_true (by kernel_rfl)) (by unfold Func.isWrapper; first | (rw [if_pos (by decide +kernel)]; kernel_rfl) | (rw [if_neg (by decide +kernel)]; exact ⟨rfl, rfl⟩))
    (fun os started H enc _ => lifted os started H enc)
/-- The statement: the tied card. -/
theorem proved : Rows.AluWideCardSaid :=
  Claim7.holds_tied_plain_at .later [] [.data] true (true, "1b30c97159391c2948209299fea3c696635feb17c735c187f33a81c21148e5d9") true
    over (fun _ h => by cases h) (by kernel_rfl) (fun _ h => by cases h) aluWide_row_tie rfl ⟨rfl, rfl⟩ (by kernel_rfl) rfl
    (fun f fn hf hfn => by
      obtain rfl : f = 11 := Option.some.inj ((show Tryd.prog.funcNamed "postbag/postbaglaw04.AluWide" = some 11 by kernel_rfl).symm.trans hf) |>.symm
      obtain rfl : fn = Tryd.f11 := (Option.some.inj (Tryd.func11.symm.trans hfn)).symm
      exact ⟨by kernel_rfl, fun j t ht => by
        rw [Tryd.params11] at ht
        have hm : t ∈ [23, 43, 43, 43, 43, 43] := by simpa using Array.mem_of_getElem? ht
        have hall : ([23, 43, 43, 43, 43, 43].all fun u => !Tryd.prog.wantsStandIn u) = true := by kernel_rfl
        exact (show Tryd.prog.wantsStandIn t = false by simpa using List.all_eq_true.1 hall t hm)⟩)
    (by kernel_rfl)
#print axioms proved
end Go.Proofs.YtnifoghebnjonaaDoor.aluWide
