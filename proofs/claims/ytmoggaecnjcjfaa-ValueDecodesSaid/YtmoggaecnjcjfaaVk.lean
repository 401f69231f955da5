/-
  Proved here: the code's Encode. Conditions: the memory holds the value and the words; of the value's blocks nothing is frozen; there are fewer than a million words.
-/
import Derived.Test.YtmoggaecnjcjfaaVj
namespace Go.Proofs.Ytmoggaecnjcjfaa
open Go.RowKit Go.ChangeMaps
set_option linter.unusedVariables false
set_option linter.unusedSimpArgs false
set_option maxRecDepth 100000
set_option maxHeartbeats 4000000
theorem encode_any (W0 : World) (v : Vl) (hv : v.Has W0) (hz : v.Fre W0) (hg : v.good = true) (sv : Value) (xs : List Int) (hs : WdsR W0 sv xs) (hl : xs.length + v.wd ≤ 1000000) (bs : Int) (hb0 : 0 ≤ bs) (hb1 : bs < 18446744073709551616) (hb8 : bs % 8 = 0) (w : World) (hw : Nb W0 w) :
    Calls Try.prog 15 #[.agg v.cells.toArray, sv, .int .u64 bs] w fun r w' => ∃ A, r = .returned (.tuple #[.int .u64 (v.enc bs xs).1, .slice A (v.enc bs xs).2.length (v.enc bs xs).2.length, .int .i64 0]) ∧ Nb w w' ∧ WdsR w' (.slice A (v.enc bs xs).2.length (v.enc bs xs).2.length) (v.enc bs xs).2 := by
  obtain ⟨A, cap, hav, hcap, hlen, hA⟩ := hv.vls.head
  have hcs : v.cells.toArray = #[.int .i64 v.kind, .int .i64 v.n, .slice A v.args.length cap] := by rw [← hav]; rfl
  have hgd := fun W (h : Nb W0 W) => good_any W0 v hv hz W h
  rw [hcs, hg] at hgd
  rw [hcs]
  obtain ⟨L, hL⟩ : ∃ L, v.args.length = L := ⟨_, rfl⟩
  rw [hL] at hcs hgd ⊢
  obtain ⟨E, hE⟩ : ∃ E, v.enc bs xs = E := ⟨_, rfl⟩
  have hEh := Lib.hid hE
  rw [hE]
  clear hL hav hE hA
  replace hcs := Lib.hid hcs
  replace hgd := Lib.hid hgd
  obtain ⟨As, ks, hsv, hks, -, -⟩ := hs.head
  rw [List.length_map] at hsv hks
  obtain ⟨n, hn⟩ : ∃ n, xs.length = n := ⟨_, rfl⟩
  rw [hn] at hsv hks
  subst hsv
  replace hn := Lib.hid hn
  replace hs := Lib.hid hs
  replace hl := Lib.hid hl
  go_enter Try.func15, Try.ntmps15
  go_upto_region 1 with (fail)
  obtain ⟨W1, hW⟩ : ∃ W1, (w.alloc (Obj.cells #[.int .i64 v.kind, .int .i64 v.n, .slice A L cap] 24)).alloc (Obj.cells #[.int .u64 bs] 32) = W1 := ⟨_, rfl⟩
  have n1 : Nb w W1 := by rw [← hW]; exact ((Nb.refl w).alloc _).alloc _
  have bV : W1.heap[w.heap.size]? = some (.cells #[.int .i64 v.kind, .int .i64 v.n, .slice A L cap] 24 (0, 0)) := by rw [← hW]; exact old_blk (new_blk _ _ rfl) _
  have bB : W1.heap[w.heap.size + 1]? = some (.cells #[.int .u64 bs] 32 (0, 0)) := by rw [← hW]; exact new_blk _ _ (by rw [World.size_alloc])
  rw [hW]
  clear hW
  obtain ⟨V, hV⟩ : ∃ V, w.heap.size = V := ⟨_, rfl⟩
  rw [hV] at bV bB ⊢
  obtain ⟨bb, hbb⟩ : ∃ b, V + 1 = b := ⟨_, rfl⟩
  rw [hbb] at bB ⊢
  have v0 := cell_of_row _ _ 0 _ _ _ bV
  have v1 := cell_of_row _ _ 1 _ _ _ bV
  have v2 := cell_of_row _ _ 2 _ _ _ bV
  clear hV hbb
  go_upto_region 3 with (go_at_call 22; refine (hgd.out _ (hw.trans n1)).mono ?_; rintro r w2 ⟨rfl, n2⟩; have q0 := cell_of_row _ _ 0 _ _ _ (n2.block bB))
  have n12 : Nb w w2 := n1.trans n2
  have hv2 : v.Has w2 := hv.nb (hw.trans n12)
  have bV2 := n2.block bV
  have bB2 := n2.block bB
  have hs2 : WdsR w2 (.slice As n ks) xs := hs.out.nb (hw.trans n12)
  have hcl := Lib.hid (clone_any w2.heap.size (.slice As n ks) xs w2 hs2 (by have := hl.out; omega) (Nat.le_refl _))
  clear v0 v1 v2 q0 bV bB n1 n2
  go_upto_region 4 with (go_at_call 30; refine (hcl.out).mono ?_; rintro r w3 ⟨sv3, rfl, n3, ho3⟩; obtain ⟨B3, c3, rfl⟩ := own_slice ho3)
  rw [hn.out] at ho3 ⊢
  obtain ⟨W4, hW4⟩ : ∃ W4, w3.alloc (Obj.cells #[.slice B3 n c3] 31) = W4 := ⟨_, rfl⟩
  have n34 : Nb w3 W4 := by rw [← hW4]; exact (Nb.refl w3).alloc _
  have b4 : W4.heap[w3.heap.size]? = some (.cells #[.slice B3 n c3] 31 (0, 0)) := by rw [← hW4]; exact new_blk _ _ rfl
  rw [hW4]
  clear hW4
  obtain ⟨lb, hlb⟩ : ∃ b, w3.heap.size = b := ⟨_, rfl⟩
  have hlw : w2.heap.size ≤ lb := by have := n3.size; omega
  rw [hlb] at b4 ⊢
  clear hlb
  go_upto_region 6 with (fail)
  obtain ⟨W5, hW5⟩ : ∃ W5, W4.alloc (Obj.cells #[.func (.func 31) #[] #[.pointer (some ⟨lb, 0, none⟩), .pointer (some ⟨W4.heap.size, 0, none⟩), .pointer (some ⟨bb, 0, none⟩)]] 53) = W5 := ⟨_, rfl⟩
  have n45 : Nb W4 W5 := by rw [← hW5]; exact (Nb.refl W4).alloc _
  have b5 : W5.heap[W4.heap.size]? = some (.cells #[.func (.func 31) #[] #[.pointer (some ⟨lb, 0, none⟩), .pointer (some ⟨W4.heap.size, 0, none⟩), .pointer (some ⟨bb, 0, none⟩)]] 53 (0, 0)) := by rw [← hW5]; exact new_blk _ _ rfl
  rw [hW5]
  clear hW5
  obtain ⟨fb, hfb⟩ : ∃ b, W4.heap.size = b := ⟨_, rfl⟩
  rw [hfb] at b5 ⊢
  clear hfb
  have n35 := n34.trans n45
  have n25 := n3.trans n35
  have h5 : LayAt w2 lb fb bb bs W5 xs := ⟨n25, bB2, b5, ⟨_, n45.block b4, by rw [hn.out]; exact own_nbU ho3 n35⟩, hlw⟩
  have hcall : Hid (Calls Try.prog 31 #[.agg #[.int .i64 v.kind, .int .i64 v.n, .slice A L cap], .pointer (some ⟨lb, 0, none⟩), .pointer (some ⟨fb, 0, none⟩), .pointer (some ⟨bb, 0, none⟩)] W5 (fun r w' => r = .returned (.int .u64 E.1) ∧ LayAt w2 lb fb bb bs w' E.2 ∧ Kl lb W5 w')) := Lib.hid (by
    rw [← hcs.out, ← hEh.out]
    exact lay_any w2 lb fb bb bs v hv2 xs hl.out W5 h5)
  have bV5 := n25.block bV2
  have v0 := cell_of_row _ _ 0 _ _ _ bV5
  have v1 := cell_of_row _ _ 1 _ _ _ bV5
  have v2 := cell_of_row _ _ 2 _ _ _ bV5
  have qf := cell_of_row _ _ 0 _ _ _ h5.fbox
  clear hcl ho3 n3 n34 b4 n45 b5 n35 n25 hs2 h5
  go_upto_region 7 with (go_at_call 31; refine (hcall.out).mono ?_; rintro r w6 ⟨rfl, h6, k6⟩)
  obtain ⟨sv6, b6, ho6⟩ := h6.lbox
  obtain ⟨B6, c6, rfl⟩ := own_slice ho6
  have hc6 : E.2.length ≤ c6 ∧ (B6 = none → c6 = 0) := by
    rcases ho6.2 with ⟨h0, h1⟩ | ⟨g, cap', cur, h0, _, _, hnc, _⟩
    · simp only [Value.slice.injEq] at h0
      exact ⟨by omega, fun _ => h0.2.2⟩
    · simp only [Value.slice.injEq, true_and] at h0
      exact ⟨by omega, fun e => by rw [h0.1] at e; cases e⟩
  have hW := own_wds ho6 rfl
  have l6 := cell_of_row _ _ 0 _ _ _ b6
  have hcp := Lib.hid (fun W => clip_any B6 E.2.length c6 hc6.1 hc6.2 W)
  have nw6 : Nb w w6 := n12.trans h6.nb
  clear hcall b6 ho6 h6 hc6 v0 v1 v2 qf bV5 bV2 bB2
  go_wp2_with (go_at_call 33; refine (hcp.out _).mono ?_; rintro r w7 ⟨rfl, rfl⟩)
  go_ret3
  exact ⟨B6, rfl, nw6, hW⟩
end Go.Proofs.Ytmoggaecnjcjfaa
