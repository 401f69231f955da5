/-
  Proved here: the statement PatternWild: a pattern of variables alone asks for a tuple alone, and binds all its parts. Conditions: none.
-/
import Derived.Test.YtchcfjlkgnlnoaaPn
import Derived.Deep.CutRange
import Derived.Deep.DeepCutAuto
namespace Go.Proofs.Ytchcfjlkgnlnoaa.patternWild
open Go.Sort Go.RowKit Go.ChangeMaps Go.ChangeShapes Go.WideShapes Go.ChangeAt Go.Joins
set_option linter.unusedVariables false
set_option linter.unusedSimpArgs false
set_option maxRecDepth 100000
set_option maxHeartbeats 4000000
/-- Letters that are there. -/
structure LoopA (w : World) (V P' B1 : Nat) (cv : Array Value) (l : List Bs) (av : Value) (wr : World) : Prop where
  nb : Nb w wr
  bV : wr.heap[V]? = some (.cells cv 31 (0, 0))
  bP : wr.heap[P']? = some (.cells #[.int .i64 5, .int .i64 0, .int .i64 0, .string ⟨#[]⟩, av] 24 (0, 0))
  own : wr.ownsRow B1 24 5 av l.length ((l.map fun s => (varE s).cells).flatten)
  sz : B1 ≤ wr.heap.size
  nm : ∀ s ∈ l, s.length ≤ 10
theorem infoE : (Try.prog.info? 24).map (fun i => (i.zero, i.size, i.bytes)) = some (some (.agg #[.int .i64 0, .int .i64 0, .int .i64 0, .string ⟨#[]⟩, .slice none 0 0]), 5, 64) := by kernel_rfl
theorem partsE : ∃ i, Try.prog.info? 24 = some i ∧ i.zero = some (.agg #[.int .i64 0, .int .i64 0, .int .i64 0, .string ⟨#[]⟩, .slice none 0 0]) ∧ i.size = 5 ∧ i.bytes = 64 := by
  have h := infoE
  cases hq : Try.prog.info? 24 with
  | none => rw [hq] at h; cases h
  | some i =>
    rw [hq] at h
    simp only [Option.map_some, Option.some.injEq, Prod.mk.injEq] at h
    exact ⟨i, rfl, h.1, h.2.1, h.2.2⟩
theorem LoopA.next {w wr w7 : World} {V P' B1 : Nat} {cv : Array Value} {l : List Bs} {av av' : Value} {s : Bs} (h : LoopA w V P' B1 cv l av wr) {w6 : World} (n6 : Nb wr w6) (ho : w7.ownsRow B1 24 5 av' (l.length + 1) ((l.map fun s => (varE s).cells).flatten ++ (varE s).cells)) (hg : w6.grownBy w7 av.ownBlock) (hs : s.length ≤ 10)
    (hw : w.heap.size ≤ P') (hV : V ≠ P') (hVB : V < B1) (hPB : P' < B1) (hwB : w.heap.size ≤ B1) : LoopA w V P' B1 cv (l ++ [s]) av' (w7.setCell ⟨P', 4, none⟩ av') := by
  have o6 := h.own.kept (nb_grown n6) (none_or _)
  have bP := grown_blk hg (n6.block h.bP) (own_low o6 hPB)
  have bV := grown_blk hg (n6.block h.bV) (own_low o6 hVB)
  have hg4 : w7.grownBy (w7.setCell ⟨P', 4, none⟩ av') (some P') := ⟨rfl, rfl, rfl, by simp, fun k _ hk => heap_setCell_other _ _ _ _ (fun e => hk (by rw [e]))⟩
  refine ⟨(Below.grown (h.nb.trans n6) hg (h.nb.trans n6).size (fun k hk => by have := (o6.lt k hk).1; omega)).setCell (p := ⟨P', 4, none⟩) hw _, by rw [heap_setCell_other _ _ _ _ (by simpa using hV)]; exact bV, by have := heap_setCell_same _ _ 4 _ _ av' bP; simpa using this, ?_, by have := h.sz; have := n6.size; have := hg.size; simp; omega, ?_⟩
  · rw [List.length_append, List.length_singleton, List.map_append, List.flatten_append]
    simpa using ho.kept hg4 (own_low' ho hPB)
  · intro x hx
    rw [List.mem_append, List.mem_singleton] at hx
    rcases hx with hx | rfl
    · exact h.nm x hx
    · exact hs
theorem walk (v : Vl) (n : Int) (hn : -9223372036854775808 ≤ n ∧ n < 9223372036854775808) (w : World) (hv : v.Has w) :
    Calls Try.prog 4 #[.agg v.cells.toArray, .int .i64 n] w fun r w' => r = .returned (.bool true) ∧ Nb w w' := by
  obtain ⟨A, L, c, hL, hav, hcs⟩ := vl_lit hv
  obtain ⟨iE, hiE, hzE0, hzE1, hzE2⟩ := partsE
  obtain ⟨K, hK1, hK4, hK⟩ : ∃ K : Nat, 1 ≤ K ∧ K ≤ 4 ∧ wrap64 (1 + wrap64 ((IntKind.u64.wrap n).tmod 4)) = (K : Int) := by
    have hu : 0 ≤ IntKind.u64.wrap n := by simp [IntKind.wrap, IntKind.signed, IntKind.bits]; omega
    have h0 : 0 ≤ (IntKind.u64.wrap n).tmod 4 := Int.tmod_nonneg _ hu
    have h1 : (IntKind.u64.wrap n).tmod 4 < 4 := Int.tmod_lt_of_pos _ (by decide)
    generalize (IntKind.u64.wrap n).tmod 4 = q at h0 h1
    refine ⟨(1 + q).toNat, by omega, by omega, ?_⟩
    unfold wrap64
    omega
  rw [hcs]
  replace hcs := Lib.hid hcs
  replace hv := Lib.hid hv
  replace hL := Lib.hid hL
  replace hav := Lib.hid hav
  obtain ⟨vk, hvk⟩ : ∃ k, v.kind = k := ⟨_, rfl⟩
  obtain ⟨vn, hvn⟩ : ∃ k, v.n = k := ⟨_, rfl⟩
  rw [hvk, hvn]
  rw [hvk, hvn] at hcs
  replace hvk := Lib.hid hvk
  replace hvn := Lib.hid hvn
  clear hn
  go_enter Try.func4, Try.ntmps4
  go_upto_region 2 with (fail)
  rw [hK]
  clear hK
  obtain ⟨W1, hW1⟩ : ∃ W1, w.alloc (Obj.cells #[.int .i64 vk, .int .i64 vn, .slice A L c] 31) = W1 := ⟨_, rfl⟩
  have n1 : Nb w W1 := by rw [← hW1]; exact (Nb.refl w).alloc _
  have bV : W1.heap[w.heap.size]? = some (.cells #[.int .i64 vk, .int .i64 vn, .slice A L c] 31 (0, 0)) := by rw [← hW1]; exact new_blk _ _ rfl
  rw [hW1]
  clear hW1
  obtain ⟨V, hV⟩ : ∃ V, w.heap.size = V := ⟨_, rfl⟩
  rw [hV] at bV ⊢
  clear hV
  have z0 := cell_of_row _ _ 0 _ _ _ bV
  have z1 := cell_of_row _ _ 1 _ _ _ bV
  have z2 := cell_of_row _ _ 2 _ _ _ bV
  have n2 : Nb W1 (W1.alloc (Obj.cells #[.int .i64 vk, .int .i64 vn, .slice A L c] 31)) := (Nb.refl W1).alloc _
  have hone : VlsHas (W1.alloc (Obj.cells #[.int .i64 vk, .int .i64 vn, .slice A L c] 31)) (.slice (some ⟨W1.heap.size, 0, none⟩) 1 1) [v] := one_has (by rw [hvk.out, hvn.out, hav.out]; exact new_blk _ _ rfl) (hv.out.nb (n1.trans n2))
  have hlt := Lib.hid (light_any _ _ [v] hone _ (Nb.refl _))
  obtain ⟨lv, hlv⟩ : ∃ b, [v].all Vl.light = b := ⟨_, rfl⟩
  rw [hlv] at hlt
  clear hlv hone
  cases lv with
  | false =>
    go_wp2_with (first
      | (go_at_call 10; refine (hlt.out).mono ?_; rintro r w3 ⟨rfl, n3⟩)
      | (go_at_call 11; refine (lives_any _).mono ?_; rintro r w4 ⟨rfl, n4⟩))
    go_ret
    exact ⟨rfl, n1.trans (n2.trans (n3.trans n4))⟩
  | true =>
    go_upto_region 5 with (go_at_call 10; refine (hlt.out).mono ?_; rintro r w3 ⟨rfl, n3⟩)
    obtain ⟨W4, hW4⟩ : ∃ W4, w3.alloc (Obj.cells #[.int .i64 5, .int .i64 0, .int .i64 0, .string ⟨#[]⟩, .slice none 0 0] 24) = W4 := ⟨_, rfl⟩
    have n4 : Nb w3 W4 := by rw [← hW4]; exact (Nb.refl w3).alloc _
    have bP : W4.heap[w3.heap.size]? = some (.cells #[.int .i64 5, .int .i64 0, .int .i64 0, .string ⟨#[]⟩, .slice none 0 0] 24 (0, 0)) := by rw [← hW4]; exact new_blk _ _ rfl
    have hs4 : W4.heap.size = w3.heap.size + 1 := by rw [← hW4]; simp
    rw [hW4]
    clear hW4
    obtain ⟨P', hP'⟩ : ∃ P', w3.heap.size = P' := ⟨_, rfl⟩
    rw [hP'] at bP hs4 ⊢
    have bV4 := n4.block (n3.block (n2.block bV))
    have n5 : Nb w W4 := n1.trans (n2.trans (n3.trans n4))
    have hVP : V ≠ P' := fun e => by
      have h1 := n3.block (n2.block bV)
      have h2 := lt_blk h1
      omega
    obtain ⟨B1, hB1⟩ : ∃ B, W4.heap.size = B := ⟨_, rfl⟩
    have hnP : w.heap.size ≤ P' := by
      have h1 := (n1.trans (n2.trans n3)).size
      omega
    have hPB : P' < B1 ∧ V < B1 ∧ w.heap.size ≤ B1 := by
      have h2 := lt_blk bV4
      omega
    clear z0 z1 z2 n1 n2 n3 n4 bV hlt hP'
    have hR0 : Hid (∃ (l : List Bs) (av : Value), l.length = 0 ∧ LoopA w V P' B1 #[.int .i64 vk, .int .i64 vn, .slice A L c] l av W4) := Lib.hid ⟨[], .slice none 0 0, rfl, n5, bV4, bP, World.ownsRow_nil _ _ _ _, by omega, by simp⟩
    clear n5 bV4 bP hB1 hs4
    go_wp2_with fail
    go_loopw [27] (fun si wr => ∃ i : Nat, i ≤ K ∧ si = .int .i64 i ∧ Hid (∃ (l : List Bs) (av : Value), l.length = i ∧ LoopA w V P' B1 #[.int .i64 vk, .int .i64 vn, .slice A L c] l av wr)) (fun si _ => K - (intOf si).toNat)
    case atStart => exact ⟨0, Nat.zero_le _, rfl, hR0⟩
    case round =>
      obtain ⟨i, hi, rfl, hR⟩ := hrel
      clear hR0
      obtain ⟨l, av, hli, hA⟩ := hR.out
      by_cases hlt : i < K
      · have hlt2 : (i : Int) < (K : Int) := by omega
        have p4 := cell_of_row _ _ 4 _ _ _ hA.bP
        obtain ⟨B, cB, rfl⟩ := own_slice hA.own
        replace hA := Lib.hid hA
        rw [hli] at p4
        clear hR
        obtain ⟨x, hx⟩ : ∃ x : UInt8, (x.toNat : Int) = 97 + (i : Int) := ⟨UInt8.ofNat (97 + i), by
          have : 97 + i < 256 := by omega
          simp [UInt8.toNat_ofNat, Nat.mod_eq_of_lt this]⟩
        have hcv : (convert 52 9 (.slice (some ⟨wr.heap.size, 0, none⟩) 1 1)).run Try.prog (wr.alloc (Obj.cells #[.int .u8 (97 + (i : Int))] 5)) = .ok (.string ⟨[x].toArray⟩) (wr.alloc (Obj.cells #[.int .u8 (97 + (i : Int))] 5)) := by
          refine run_convert_bytes_back _ _ _ 5 _ 1 [x] Try.underlying52 Try.underlying5 Try.underlying9 fun j hj => ?_
          obtain rfl : j = 0 := by simpa using hj
          show (wr.alloc _).cell? ((⟨wr.heap.size, 0, none⟩ : Addr).add 0) = some (.int .u8 (x.toNat : Int))
          rw [hx]
          exact news1 wr (.int .u8 (97 + (i : Int))) 5 0 _ rfl
        have n6 : Nb wr ((wr.alloc (Obj.cells #[.int .u8 (97 + (i : Int))] 5)).alloc (Obj.cells #[.int .i64 4, .int .i64 0, .int .i64 0, sV [x], .slice none 0 0] 24)) := ((Nb.refl wr).alloc _).alloc _
        have hxh := Lib.hid hx
        have o6 : Hid (((wr.alloc (Obj.cells #[.int .u8 (97 + (i : Int))] 5)).alloc (Obj.cells #[.int .i64 4, .int .i64 0, .int .i64 0, sV [x], .slice none 0 0] 24)).ownsRow B1 24 5 (.slice B i cB) i ((l.map fun s => (varE s).cells).flatten)) := Lib.hid (by have := hA.out.own.kept (nb_grown n6) (none_or _); rw [hli] at this; exact this)
        have hsz := hA.out.sz
        have hpp : P' < B1 ∧ V < B1 ∧ w.heap.size ≤ B1 := hPB
        clear hx
        go_upto_region 8 with (fail)
        go_upto_region 9 with (at_builtin; go_loud (refine wpList_append_own _ rfl (.tmp 31) (.tmp 38) 22 rfl B1 24 iE _ 5 64 Try.underlying22 hiE hzE0 hzE1 hzE2 rfl (by decide) (.slice B i cB) i ((l.map fun s => (varE s).cells).flatten) rfl o6.out ⟨wr.heap.size + 1, 0, none⟩ 1 1 [.int .i64 4, .int .i64 0, .int .i64 0, sV [x], .slice none 0 0] rfl rfl ?c1 ?c2 ?c3 ?c4 ?c5 ?_))
        case c1 => exact fun j u hu => by rw [Addr.add_mid, Nat.zero_add, cell_of_row _ _ _ _ _ _ (new_blk (wr.alloc (Obj.cells #[.int .u8 (97 + (i : Int))] 5)) (Obj.cells #[.int .i64 4, .int .i64 0, .int .i64 0, sV [x], .slice none 0 0] 24) (by simp))]; simpa using hu
        case c2 => intro u hu; simp only [List.mem_cons, List.not_mem_nil, or_false] at hu; rcases hu with rfl | rfl | rfl | rfl | rfl <;> rfl
        case c3 => unfold maxLen; omega
        case c4 => omega
        case c5 => simp; omega
        intro v7 w7 o7 g7 _
        obtain ⟨B7, c7, rfl⟩ := own_slice o7
        have bP7 := grown_blk g7 (n6.block hA.out.bP) (own_low o6.out hpp.1)
        rw [hli] at bP7
        have p7 : w7.cell? ⟨P', 4, none⟩ = some (.slice B i cB) := cell_of_row _ _ 4 _ _ _ bP7
        have f7 : w7.frozen? ⟨P', 4, none⟩ = false := frozen_blk bP7 4
        have hA8 : Hid (LoopA w V P' B1 #[.int .i64 vk, .int .i64 vn, .slice A L c] (l ++ [[x]]) (.slice B7 (i + 1) c7) (w7.setCell ⟨P', 4, none⟩ (.slice B7 (i + 1) c7))) := Lib.hid (hA.out.next n6 (by rw [hli]; exact o7) (by rw [hli]; exact g7) (by simp) hnP hVP hpp.2.1 hpp.1 hpp.2.2)
        clear o7 g7 o6 hA n6 p4 bP7 hcv hxh
        go_wp2_with fail
        exact ⟨⟨i + 1, by omega, by simp, Lib.hid ⟨_, _, by simp [hli], hA8.out⟩⟩, by simp [intOf] <;> omega⟩
      · obtain rfl : i = K := by omega
        have hlt2 : ¬ (i : Int) < (i : Int) := by omega
        obtain ⟨g, cB, rfl, hcB⟩ := own_some hA.own (by omega)
        obtain ⟨s0, hs0⟩ : ∃ s, l[0]? = some s := ⟨_, List.getElem?_eq_getElem (by omega)⟩
        have he := vars_has hA.own rfl (by omega) (fun s hs => by have := hA.nm s hs; omega)
        have hcE : (varsE (.slice (some ⟨g, 0, none⟩) l.length cB) l).cells.toArray = #[.int .i64 5, .int .i64 0, .int .i64 0, .string ⟨#[]⟩, .slice (some ⟨g, 0, none⟩) l.length cB] := rfl
        have hNil : ∀ W, NmsR W (.slice none 0 0) [] := fun W => ⟨none, 0, rfl, Nat.le_refl _, by simp, fun _ => rfl, fun i r hi => by simp at hi⟩
        have hT1 := fun W (k : Nb wr W) => Tests_any W _ (he.nb k) _ _ (hNil W) (by rw [vars_ts]; simp) (by have := vars_dpt (.slice (some ⟨g, 0, none⟩) l.length cB) l; omega) W (Nb.refl W)
        simp only [vars_ts, hcE] at hT1
        have hT2 := fun W => Tests_any W (varE s0) (leaf_hasE _ _ _ _ (by decide) (by decide) (by have := hA.nm s0 (List.mem_of_getElem? hs0); omega)) _ _ (hNil W) (by simp [Ex.tsP]) (by simp [Ex.dpt, Ex.dptL]) W (Nb.refl W)
        have hT3 := fun W => Tests_any W (.mk 1 0 0 [] (.slice none 0 0) []) (leaf_hasE _ _ _ _ (by decide) (by decide) (by decide)) _ _ (hNil W) (by simp [Ex.tsP]) (by simp [Ex.dpt, Ex.dptL]) W (Nb.refl W)
        have e2 : ((varE s0).tsP (fun s => (lastO [] s).getD (-1)) []) = [] := by simp [Ex.tsP]
        have e3 : ((Ex.mk 1 0 0 [] (.slice none 0 0) []).tsP (fun s => (lastO [] s).getD (-1)) []) = [] := by simp [Ex.tsP]
        simp only [e2] at hT2
        simp only [e3] at hT3
        have c2 : (varE s0).cells.toArray = #[.int .i64 4, .int .i64 0, .int .i64 0, sV s0, .slice none 0 0] := rfl
        have c3 : (Ex.mk 1 0 0 [] (.slice none 0 0) []).cells.toArray = #[.int .i64 1, .int .i64 0, .int .i64 0, .string ⟨#[]⟩, .slice none 0 0] := rfl
        rw [c2] at hT2
        rw [c3] at hT3
        have hVr := fun W (k : Nb wr W) => Vars_any _ W (he.nb k) (vars_full _ l (by omega)) (by rw [(vars_vs _ l).1]; omega) (by have := vars_dpt (.slice (some ⟨g, 0, none⟩) l.length cB) l; omega)
        simp only [hcE] at hVr
        obtain ⟨VV, hVV⟩ : ∃ VV, (varsE (.slice (some ⟨g, 0, none⟩) l.length cB) l).vsP [] = VV := ⟨_, rfl⟩
        have hvl := vars_vs (.slice (some ⟨g, 0, none⟩) l.length cB) l
        rw [hVV] at hvl
        simp only [hVV] at hVr
        obtain ⟨bg, og, hbo, ⟨y0, y1, y2, y3, y4⟩, -⟩ := he.exs.cells_at (i := 0) (e := varE s0) (by show (l.map varE)[0]? = _; rw [List.getElem?_map, hs0]; rfl)
        simp only [Option.some.injEq, Addr.mk.injEq, and_true] at hbo
        obtain ⟨rfl, rfl⟩ := hbo
        simp only [Nat.zero_mul, Nat.add_zero, Nat.zero_add] at y0 y1 y2 y3 y4
        have bP := hA.bP
        have bV := hA.bV
        have nw := hA.nb
        rw [hli] at hT1 hVr bP hvl
        replace hT1 := Lib.hid hT1
        replace hT2 := Lib.hid hT2
        replace hT3 := Lib.hid hT3
        replace hVr := Lib.hid hVr
        replace hvl := Lib.hid hvl
        replace hA := Lib.hid hA
        have p0 := cell_of_row _ _ 0 _ _ _ bP
        have p1 := cell_of_row _ _ 1 _ _ _ bP
        have p2 := cell_of_row _ _ 2 _ _ _ bP
        have p3 := cell_of_row _ _ 3 _ _ _ bP
        have p4 := cell_of_row _ _ 4 _ _ _ bP
        clear hR e2 e3 c2 c3 hVV hs0 hcE hNil he hcB
        go_upto_region 11 with (go_at_call 15; refine (hT1.out wr (Nb.refl wr)).mono ?_; rintro r w5 ⟨v5, rfl, n5, hts⟩)
        obtain ⟨B5, rfl, -, hr5⟩ := hts.row
        obtain ⟨g5, pv5, rfl, r50, r51, r52, i5⟩ := hr5 0 _ rfl
        obtain ⟨q0, q1, q2, q3, q4⟩ := And.intro (n5.cell p0) (And.intro (n5.cell p1) (And.intro (n5.cell p2) (And.intro (n5.cell p3) (n5.cell p4))))
        clear hr5 hts p0 p1 p2 p3 p4
        go_upto_region 12 with (go_at_call 12; refine (hVr.out w5 n5).mono ?_; rintro r w6 ⟨nv, qv, rfl, n6, hvs⟩)
        obtain ⟨A6, c6, rfl, -, -, -⟩ := hvs.nm.head
        obtain ⟨B6, rfl, hr6⟩ := hvs.ps
        rw [List.length_map, hvl.out.1]
        replace hr6 := Lib.hid hr6
        have n56 := n5.trans n6
        have t4 := n56.cell (show wr.cell? ⟨P', 4, none⟩ = some (.slice (some ⟨g, 0, none⟩) i cB) from cell_of_row _ _ 4 _ _ _ bP)
        replace y0 := n56.cell y0
        replace y1 := n56.cell y1
        replace y2 := n56.cell y2
        replace y3 := n56.cell y3
        replace y4 := n56.cell y4
        clear q0 q1 q2 q3 q4
        go_upto_region 14 with (first
          | (go_at_call 15; refine (hT2.out w6).mono ?_; rintro r w7 ⟨v7, rfl, n7, ht7⟩; obtain ⟨B7, rfl, -, -⟩ := ht7.row)
          | (go_at_call 15; refine (hT3.out w7).mono ?_; rintro r w8 ⟨v8, rfl, n8, ht8⟩; obtain ⟨B8, rfl, -, -⟩ := ht8.row))
        have n58 : Nb w5 w8 := n6.trans (n7.trans n8)
        have n68 : Nb w6 w8 := n7.trans n8
        have nw6 := nw.trans n56
        have nw8 := Lib.hid (nw6.trans n68)
        have bV8 := n68.block (n56.block bV)
        have z0 := cell_of_row _ _ 0 _ _ _ bV8
        have z2 := cell_of_row _ _ 2 _ _ _ bV8
        replace r50 := n58.cell r50
        replace r51 := n58.cell r51
        replace r52 := n58.cell r52
        obtain ⟨A5, cA5, rfl, -, -, -⟩ := i5.head
        have hFits : ∀ fb, (⟨[], 5, (i : Int)⟩ : Ts).fits v = fb → Hid (∀ W, Nb w8 W → Calls Try.prog 21 #[.agg #[.slice A5 0 cA5, .int .i64 5, .int .i64 (i : Int)], .agg #[.int .i64 vk, .int .i64 vn, .slice A L c]] W fun r w' => r = .returned (.bool fb) ∧ Nb W w') := fun fb hfb => Lib.hid (fun W hW => by
          have := Fits_any w8 v (hv.out.nb nw8.out) ⟨[], 5, (i : Int)⟩ (.slice A5 0 cA5) (i5.nb n58) W hW
          rw [hfb, hcs.out] at this
          exact this)
        have hft : (⟨[], 5, (i : Int)⟩ : Ts).fits v = (decide (vk = 4) && decide ((L : Int) = (i : Int))) := by
          show fitP 5 (i : Int) v.kind v.n v.args.length = _
          rw [hvk.out, hL.out]
          rfl
        have hvl2 := Lib.hid (show VlsHas w (.slice A L c) v.args by rw [← hav.out]; exact hv.out.vls)
        have hAts : Hid (∀ (m : Nat), m < i → ∃ g6 b7 o7 c7, B6 = some ⟨g6, 0, none⟩ ∧ w6.cell? ⟨g6, m, none⟩ = some (.slice (some ⟨b7, o7, none⟩) 1 c7) ∧ w6.cell? ⟨b7, o7, none⟩ = some (.int .i64 (m : Int)) ∧ ∀ W, Nb w6 W → Calls Try.prog 18 #[.agg #[.int .i64 vk, .int .i64 vn, .slice A L c], .slice (some ⟨b7, o7, none⟩) 1 c7] W fun r w' => r = .returned (atR (v.atP [(m : Int)])) ∧ Nb W w') := Lib.hid (fun m hm => by
          obtain ⟨s, hs⟩ : ∃ s, l[m]? = some s := ⟨_, List.getElem?_eq_getElem (by omega)⟩
          obtain ⟨g6, pv, e1, e2, e3⟩ := hr6.out m _ (hvl.out.2 m s hs)
          obtain ⟨A7, c7, rfl, -, -, -⟩ := e3.head
          obtain ⟨b7, o7, rfl, e4⟩ := e3.at_ (i := 0) (r := [.int .i64 (m : Int)]) rfl
          have e5 := e4 0 _ rfl
          simp only [Nat.zero_mul, Nat.add_zero] at e5
          refine ⟨g6, b7, o7, c7, e1, e2, e5, fun W hW => ?_⟩
          have := At_any w6 v (hv.out.nb nw6) _ [(m : Int)] e3 W hW
          rw [hcs.out] at this
          exact this)
        clear t4 y0 y1 y2 y3 y4 bP hT1 hT2 hT3 hVr hr6 hvl hvs hA ht7 ht8 n5 n6 n7 n8 bV hli hlt hlt2 n56
        have hfin : ∀ (fb : Bool), (decide (vk = 4) && decide ((L : Int) = (i : Int))) = fb → Hid (∀ W, Nb w8 W → Calls Try.prog 21 #[.agg #[.slice A5 0 cA5, .int .i64 5, .int .i64 (i : Int)], .agg #[.int .i64 vk, .int .i64 vn, .slice A L c]] W fun r w' => r = .returned (.bool fb) ∧ Nb W w') := fun fb h => hFits fb (hft.trans h)
        clear hFits hft
        go_cut [11] from 71 to 80 (fun s11 wx => ∃ fb : Bool, s11 = .bool fb ∧ Hid (∀ W, Nb w8 W → Calls Try.prog 21 #[.agg #[.slice A5 0 cA5, .int .i64 5, .int .i64 (i : Int)], .agg #[.int .i64 vk, .int .i64 vn, .slice A L c]] W fun r w' => r = .returned (.bool fb) ∧ Nb W w') ∧ wx = w8)
        case first =>
          by_cases k4 : vk = 4
          · have k4b : (vk == 4) = true := by simpa using k4
            obtain ⟨fb, hfb⟩ : ∃ fb : Bool, ((L : Int) == (i : Int)) = fb := ⟨_, rfl⟩
            replace hfin := hfin fb (by rw [← hfb]; by_cases h : (L : Int) = (i : Int) <;> simp [h, k4])
            clear k4
            go_wp2_with fail
            go_meet
            exact ⟨fb, rfl, hfin, rfl⟩
          · have k4b : (vk == 4) = false := by simpa using k4
            replace hfin := hfin false (by simp [k4])
            clear k4
            go_wp2_with fail
            go_meet
            exact ⟨false, rfl, hfin, rfl⟩
        case rest =>
          obtain ⟨fb, rfl, hft, hwc⟩ := hcut
          obtain rfl : w8 = wc := hwc.symm
          clear hfin z0 z2
          go_wp2_with fail
          go_loopw [82] (fun si wm => ∃ m : Nat, m ≤ i ∧ si = .int .i64 m ∧ Nb w8 wm) (fun si _ => i - (intOf si).toNat)
          case atStart => exact ⟨0, Nat.zero_le _, rfl, Nb.refl _⟩
          case round =>
            obtain ⟨m, hmi, rfl, hgm⟩ := hrel
            have bVm := hgm.block bV8
            have bv2 := cell_of_row _ _ 2 _ _ _ bVm
            by_cases hlt : m < i
            · have hlt2 : (m : Int) < (i : Int) := by omega
              obtain ⟨g6, b7, o7, c7, rfl, k6, k7, hAt0⟩ := hAts.out m hlt
              have n6m := n68.trans hgm
              replace k6 := n6m.cell k6
              replace k7 := n6m.cell k7
              by_cases hmL : m < L
              · have hmL2 : (m : Int) < (L : Int) := by omega
                obtain ⟨y, hy⟩ : ∃ y, v.args[m]? = some y := ⟨_, List.getElem?_eq_getElem (by rw [hL.out]; omega)⟩
                obtain ⟨by', oy, hA', ⟨y0, y1, y2⟩, hyh⟩ := hvl2.out.at_ hy
                subst hA'
                obtain ⟨Ay, Ly, cy, hLy, hay, hcy⟩ := vl_lit hyh
                rw [hay] at y2
                have hat : v.atP [(m : Int)] = some y := by
                  rw [Vl.atP, if_neg (by omega), show ((m : Int)).toNat = m by omega, hy]
                  rfl
                rw [hat] at hAt0
                replace hAt0 : ∀ W, Nb w6 W → Calls Try.prog 18 #[.agg #[.int .i64 vk, .int .i64 vn, .slice (some ⟨by', oy, none⟩) L c], .slice (some ⟨b7, o7, none⟩) 1 c7] W fun r w' => r = .returned (.tuple #[.agg #[.int .i64 y.kind, .int .i64 y.n, .slice Ay Ly cy], .bool true]) ∧ Nb W w' := fun W h => by
                  have := hAt0 W h
                  unfold atR at this
                  rw [← hcy]
                  exact this
                have hAt := Lib.hid (fun W (h : Nb wr W) => hAt0 W (n6m.trans h))
                have hSame : Hid (∀ W, Nb wr W → Calls Try.prog 20 #[.agg #[.int .i64 y.kind, .int .i64 y.n, .slice Ay Ly cy], .agg #[.int .i64 y.kind, .int .i64 y.n, .slice Ay Ly cy]] W fun r w' => r = .returned (.bool true) ∧ Nb W w') := Lib.hid (fun W h => by
                  rw [← hcy]
                  exact rsame_self w y hyh W ((nw6.trans n6m).trans h))
                replace y0 := (nw6.trans n6m).cell y0
                replace y1 := (nw6.trans n6m).cell y1
                replace y2 := (nw6.trans n6m).cell y2
                clear hAt0 hat hay hcy hLy hyh hy
                go_upto_region 18 with (fail)
                go_cut [13, 14] from 85 to 93 (fun s13 s14 wx => ∃ X, s13 = .pointer (some ⟨X, 0, none⟩) ∧ s14 = .bool true ∧ Nb wr wx ∧ wx.heap[X]? = some (.cells #[.int .i64 y.kind, .int .i64 y.n, .slice Ay Ly cy] 31 (0, 0)))
                case first =>
                  have hG : Nb wr wr.drew := drew1P (Nb.refl wr)
                  refine wp_region_late [] (fun _ => True) (fun w' => Nb wr w') (by kernel_rfl) ⟨fun _ => trivial, hG⟩ (fun _ => ?_)
                  change wpAnyL _ _ _ _ _ _ _ 12 (List.toArray [false, false, false, false, false, false, false, false, false, false, false, false]) _ _
                  refine takeG_l (i := 0) (v := .agg #[.int .i64 vk, .int .i64 vn, .slice (some ⟨by', oy, none⟩) L c]) rfl (by kernel_rfl) (by kernel_rfl) (by kernel_rfl) (by rfl) (fun _ _ _ h => h) (.inl ⟨by rfl, by intro w' hw; have hb := hw.block bVm; have z0 := cell_of_row _ _ 0 _ _ _ hb; have z1 := cell_of_row _ _ 1 _ _ _ hb; have z2 := cell_of_row _ _ 2 _ _ _ hb; go_simp⟩) ⟨fun _ => trivial, hG⟩ ?_
                  simp only [Act.put, List.setIfInBounds_toArray, List.set_cons_zero, List.set_cons_succ]
                  refine takeG_l (i := 1) (v := .slice (some ⟨g6, 0, none⟩) i i) rfl (by kernel_rfl) (by kernel_rfl) (by kernel_rfl) (by rfl) (fun _ _ _ h => h) (.inl ⟨by rfl, by intro w' hw; go_simp⟩) ⟨fun _ => trivial, hG⟩ ?_
                  simp only [Act.put, List.setIfInBounds_toArray, List.set_cons_zero, List.set_cons_succ]
                  refine takeG_l (i := 2) (v := .int .i64 (m : Int)) rfl (by kernel_rfl) (by kernel_rfl) (by kernel_rfl) (by rfl) (fun _ _ _ h => h) (.inl ⟨by rfl, by intro w' hw; go_simp⟩) ⟨fun _ => trivial, hG⟩ ?_
                  simp only [Act.put, List.setIfInBounds_toArray, List.set_cons_zero, List.set_cons_succ]
                  refine takeG_l (i := 3) (v := .pointer (some ⟨g6, m, none⟩)) rfl (by kernel_rfl) (by kernel_rfl) (by kernel_rfl) (by rfl) (fun _ _ _ h => h) (.inl ⟨by rfl, by intro w' hw; go_simp⟩) ⟨fun _ => trivial, hG⟩ ?_
                  simp only [Act.put, List.setIfInBounds_toArray, List.set_cons_zero, List.set_cons_succ]
                  refine takeG_l (i := 4) (v := .slice (some ⟨b7, o7, none⟩) 1 c7) rfl (by kernel_rfl) (by kernel_rfl) (by kernel_rfl) (by rfl) (fun _ _ _ h => h) (.inl ⟨by rfl, by intro w' hw; have hc : w'.cell? ⟨g6, m, none⟩ = some (.slice (some ⟨b7, o7, none⟩) 1 c7) := hw.cell k6; go_simp⟩) ⟨fun _ => trivial, hG⟩ ?_
                  simp only [Act.put, List.setIfInBounds_toArray, List.set_cons_zero, List.set_cons_succ]
                  generalize wr.drew = Wd at hG ⊢
                  refine twoL_l (i := 5) (j := 9) (by kernel_rfl) rfl rfl (by rfl) (by rfl) (fun K hK => ?ba) (fun K hK => ?bb)
                  case' ba =>
                    go_simp
                    refine (hAt.out Wd hG).mono ?_
                    rintro r w5 ⟨rfl, nc⟩
                    replace hG := hG.trans nc
                    refine hK.out _ _ ⟨fun _ => trivial, hG⟩ (fun _ => ?_)
                    clear hK K
                    simp only [Act.put, List.setIfInBounds_toArray, List.set_cons_zero, List.set_cons_succ]
                    refine takeG_l (i := 6) (v := .tuple #[.agg #[.int .i64 y.kind, .int .i64 y.n, .slice Ay Ly cy], .bool true]) rfl (by kernel_rfl) (by kernel_rfl) (by kernel_rfl) (by rfl) (fun _ _ _ h => h) (.inl ⟨by rfl, by intro w' hw; go_simp⟩) ⟨fun _ => trivial, hG⟩ ?_
                    simp only [Act.put, List.setIfInBounds_toArray, List.set_cons_zero, List.set_cons_succ]
                    refine takeG_l (i := 7) (v := .agg #[.int .i64 y.kind, .int .i64 y.n, .slice Ay Ly cy]) rfl (by kernel_rfl) (by kernel_rfl) (by kernel_rfl) (by rfl) (fun _ _ _ h => h) (.inl ⟨by rfl, by intro w' hw; go_simp⟩) ⟨fun _ => trivial, hG⟩ ?_
                    simp only [Act.put, List.setIfInBounds_toArray, List.set_cons_zero, List.set_cons_succ]
                    refine takeG_l (i := 8) (v := .bool true) rfl (by kernel_rfl) (by kernel_rfl) (by kernel_rfl) (by rfl) (fun _ _ _ h => h) (.inl ⟨by rfl, by intro w' hw; go_simp⟩) ⟨fun _ => trivial, hG⟩ ?_
                    simp only [Act.put, List.setIfInBounds_toArray, List.set_cons_zero, List.set_cons_succ]
                    refine onlyL_l (i := 9) (by kernel_rfl) rfl (by rfl) (fun K hK => ?_)
                    go_simp
                    refine hK.out _ _ ⟨fun _ => trivial, hG.alloc _⟩ (fun _ => ?_)
                    clear hK K
                    simp only [Act.put, List.setIfInBounds_toArray, List.set_cons_zero, List.set_cons_succ]
                    have bN : (w5.alloc (Obj.cells #[.int .i64 0, .int .i64 0, .slice none 0 0] 31)).heap[w5.heap.size]? = some (.cells #[.int .i64 0, .int .i64 0, .slice none 0 0] 31 (0, 0)) := new_blk _ _ rfl
                    have hgW : wr.heap.size ≤ w5.heap.size := hG.size
                    replace hG := hG.alloc (Obj.cells #[.int .i64 0, .int .i64 0, .slice none 0 0] 31)
                    generalize w5.alloc (Obj.cells #[.int .i64 0, .int .i64 0, .slice none 0 0] 31) = wx at hG bN ⊢
                    obtain ⟨X, hX⟩ : ∃ X, w5.heap.size = X := ⟨_, rfl⟩
                    rw [hX] at bN hgW ⊢
                    clear hX
                  case' bb =>
                    go_simp
                    refine hK.out _ _ ⟨fun _ => trivial, hG.alloc _⟩ (fun _ => ?_)
                    clear hK K
                    simp only [Act.put, List.setIfInBounds_toArray, List.set_cons_zero, List.set_cons_succ]
                    have bN : (Wd.alloc (Obj.cells #[.int .i64 0, .int .i64 0, .slice none 0 0] 31)).heap[Wd.heap.size]? = some (.cells #[.int .i64 0, .int .i64 0, .slice none 0 0] 31 (0, 0)) := new_blk _ _ rfl
                    have hgW : wr.heap.size ≤ Wd.heap.size := hG.size
                    replace hG := hG.alloc (Obj.cells #[.int .i64 0, .int .i64 0, .slice none 0 0] 31)
                    generalize Wd.alloc (Obj.cells #[.int .i64 0, .int .i64 0, .slice none 0 0] 31) = w5 at hG bN ⊢
                    obtain ⟨X, hX⟩ : ∃ X, Wd.heap.size = X := ⟨_, rfl⟩
                    rw [hX] at bN hgW ⊢
                    clear hX
                    refine onlyL_l (i := 5) (by kernel_rfl) rfl (by rfl) (fun K hK => ?_)
                    go_simp
                    refine (hAt.out w5 hG).mono ?_
                    rintro r wx ⟨rfl, nc⟩
                    replace hG := hG.trans nc
                    replace bN := nc.block bN
                    refine hK.out _ _ ⟨fun _ => trivial, hG⟩ (fun _ => ?_)
                    clear hK K
                    simp only [Act.put, List.setIfInBounds_toArray, List.set_cons_zero, List.set_cons_succ]
                    refine takeG_l (i := 6) (v := .tuple #[.agg #[.int .i64 y.kind, .int .i64 y.n, .slice Ay Ly cy], .bool true]) rfl (by kernel_rfl) (by kernel_rfl) (by kernel_rfl) (by rfl) (fun _ _ _ h => h) (.inl ⟨by rfl, by intro w' hw; go_simp⟩) ⟨fun _ => trivial, hG⟩ ?_
                    simp only [Act.put, List.setIfInBounds_toArray, List.set_cons_zero, List.set_cons_succ]
                    refine takeG_l (i := 7) (v := .agg #[.int .i64 y.kind, .int .i64 y.n, .slice Ay Ly cy]) rfl (by kernel_rfl) (by kernel_rfl) (by kernel_rfl) (by rfl) (fun _ _ _ h => h) (.inl ⟨by rfl, by intro w' hw; go_simp⟩) ⟨fun _ => trivial, hG⟩ ?_
                    simp only [Act.put, List.setIfInBounds_toArray, List.set_cons_zero, List.set_cons_succ]
                    refine takeG_l (i := 8) (v := .bool true) rfl (by kernel_rfl) (by kernel_rfl) (by kernel_rfl) (by rfl) (fun _ _ _ h => h) (.inl ⟨by rfl, by intro w' hw; go_simp⟩) ⟨fun _ => trivial, hG⟩ ?_
                    simp only [Act.put, List.setIfInBounds_toArray, List.set_cons_zero, List.set_cons_succ]
                  all_goals
                    refine onlyL_l (i := 10) (by kernel_rfl) rfl (by rfl) (fun K hK => ?_)
                    have s0 : wx.cell? ⟨X, 0, none⟩ = some (.int .i64 0) := cell_of_row _ _ 0 _ _ _ bN
                    have s1 : wx.cell? ⟨X, 1, none⟩ = some (.int .i64 0) := cell_of_row _ _ 1 _ _ _ bN
                    have s2 : wx.cell? ⟨X, 2, none⟩ = some (.slice none 0 0) := cell_of_row _ _ 2 _ _ _ bN
                    have f0 : wx.frozen? ⟨X, 0, none⟩ = false := frozen_blk bN 0
                    have f1 : wx.frozen? ⟨X, 1, none⟩ = false := frozen_blk bN 1
                    have f2 : wx.frozen? ⟨X, 2, none⟩ = false := frozen_blk bN 2
                    go_simp
                    have hG8 : Nb wr (((wx.setCell ⟨X, 0, none⟩ (.int .i64 y.kind)).setCell ⟨X, 1, none⟩ (.int .i64 y.n)).setCell ⟨X, 2, none⟩ (.slice Ay Ly cy)) := set3_nb hG hgW _ _ _
                    have bX := set3P (x := .int .i64 y.kind) (y := .int .i64 y.n) (z := .slice Ay Ly cy) bN
                    refine hK.out _ _ ⟨fun _ => trivial, hG8⟩ (fun _ => ?_)
                    clear hK K s0 s1 s2 f0 f1 f2 hG bN
                    simp only [Act.put, List.setIfInBounds_toArray, List.set_cons_zero, List.set_cons_succ]
                    generalize ((wx.setCell ⟨X, 0, none⟩ (.int .i64 y.kind)).setCell ⟨X, 1, none⟩ (.int .i64 y.n)).setCell ⟨X, 2, none⟩ (.slice Ay Ly cy) = w8' at hG8 bX ⊢
                    have hG := hG8
                    refine takeG_l (i := 11) (v := .bool true) rfl (by kernel_rfl) (by kernel_rfl) (by kernel_rfl) (by rfl) (fun _ _ _ h => h) (.inl ⟨by rfl, by intro w' hw; go_simp⟩) ⟨fun _ => trivial, hG⟩ ?_
                    simp only [Act.put, List.setIfInBounds_toArray, List.set_cons_zero, List.set_cons_succ]
                    refine doneL (by kernel_rfl) ?_ _
                    go_wp2_with fail
                    go_meet
                    exact ⟨X, rfl, rfl, hG8, bX⟩
                case rest =>
                  obtain ⟨X, rfl, rfl, hG8, bX⟩ := hcut
                  have h6 := hG8.cell k6
                  have h7 := hG8.cell k7
                  have hv2 := hG8.cell bv2
                  have hy0 := hG8.cell y0
                  have hy1 := hG8.cell y1
                  have hy2 := hG8.cell y2
                  go_upto_region 19 with (fail)
                  have hG : Nb wc wc.drew := drew1P (Nb.refl wc)
                  refine wp_region_late [] (fun _ => True) (fun w' => Nb wc w') (by kernel_rfl) ⟨fun _ => trivial, hG⟩ (fun _ => ?_)
                  change wpAnyL _ _ _ _ _ _ _ 38 (List.toArray [false, false, false, false, false, false, false, false, false, false, false, false, false, false, false, false, false, false, false, false, false, false, false, false, false, false, false, false, false, false, false, false, false, false, false, false, false, false]) _ _
                  refine takeG_l (i := 0) (v := .slice (some ⟨g6, 0, none⟩) i i) rfl (by kernel_rfl) (by kernel_rfl) (by kernel_rfl) (by rfl) (fun _ _ _ h => h) (.inl ⟨by rfl, by intro w' hw; go_simp⟩) ⟨fun _ => trivial, hG⟩ ?_
                  simp only [Act.put, List.setIfInBounds_toArray, List.set_cons_zero, List.set_cons_succ]
                  refine takeG_l (i := 1) (v := .int .i64 (m : Int)) rfl (by kernel_rfl) (by kernel_rfl) (by kernel_rfl) (by rfl) (fun _ _ _ h => h) (.inl ⟨by rfl, by intro w' hw; go_simp⟩) ⟨fun _ => trivial, hG⟩ ?_
                  simp only [Act.put, List.setIfInBounds_toArray, List.set_cons_zero, List.set_cons_succ]
                  refine takeG_l (i := 2) (v := .pointer (some ⟨g6, m, none⟩)) rfl (by kernel_rfl) (by kernel_rfl) (by kernel_rfl) (by rfl) (fun _ _ _ h => h) (.inl ⟨by rfl, by intro w' hw; go_simp⟩) ⟨fun _ => trivial, hG⟩ ?_
                  simp only [Act.put, List.setIfInBounds_toArray, List.set_cons_zero, List.set_cons_succ]
                  refine takeG_l (i := 3) (v := .slice (some ⟨b7, o7, none⟩) 1 c7) rfl (by kernel_rfl) (by kernel_rfl) (by kernel_rfl) (by rfl) (fun _ _ _ h => h) (.inl ⟨by rfl, by intro w' hw; have hc : w'.cell? ⟨g6, m, none⟩ = some (.slice (some ⟨b7, o7, none⟩) 1 c7) := hw.cell h6; go_simp⟩) ⟨fun _ => trivial, hG⟩ ?_
                  simp only [Act.put, List.setIfInBounds_toArray, List.set_cons_zero, List.set_cons_succ]
                  refine takeG_l (i := 4) (v := .int .i64 1) rfl (by kernel_rfl) (by kernel_rfl) (by kernel_rfl) (by rfl) (fun _ _ _ h => h) (.inl ⟨by rfl, by intro w' hw; go_simp⟩) ⟨fun _ => trivial, hG⟩ ?_
                  simp only [Act.put, List.setIfInBounds_toArray, List.set_cons_zero, List.set_cons_succ]
                  refine takeG_l (i := 5) (v := .bool false) rfl (by kernel_rfl) (by kernel_rfl) (by kernel_rfl) (by rfl) (fun _ _ _ h => h) (.inl ⟨by rfl, by intro w' hw; go_simp⟩) ⟨fun _ => trivial, hG⟩ ?_
                  simp only [Act.put, List.setIfInBounds_toArray, List.set_cons_zero, List.set_cons_succ]
                  refine takeG_l (i := 6) (v := .bool false) rfl (by kernel_rfl) (by kernel_rfl) (by kernel_rfl) (by rfl) (fun _ _ _ h => h) (.inl ⟨by rfl, by intro w' hw; go_simp⟩) ⟨fun _ => trivial, hG⟩ ?_
                  simp only [Act.put, List.setIfInBounds_toArray, List.set_cons_zero, List.set_cons_succ]
                  refine takeG_l (i := 7) (v := .slice (some ⟨g6, 0, none⟩) i i) rfl (by kernel_rfl) (by kernel_rfl) (by kernel_rfl) (by rfl) (fun _ _ _ h => h) (.inl ⟨by rfl, by intro w' hw; go_simp⟩) ⟨fun _ => trivial, hG⟩ ?_
                  simp only [Act.put, List.setIfInBounds_toArray, List.set_cons_zero, List.set_cons_succ]
                  refine takeG_l (i := 8) (v := .int .i64 (m : Int)) rfl (by kernel_rfl) (by kernel_rfl) (by kernel_rfl) (by rfl) (fun _ _ _ h => h) (.inl ⟨by rfl, by intro w' hw; go_simp⟩) ⟨fun _ => trivial, hG⟩ ?_
                  simp only [Act.put, List.setIfInBounds_toArray, List.set_cons_zero, List.set_cons_succ]
                  refine takeG_l (i := 9) (v := .pointer (some ⟨g6, m, none⟩)) rfl (by kernel_rfl) (by kernel_rfl) (by kernel_rfl) (by rfl) (fun _ _ _ h => h) (.inl ⟨by rfl, by intro w' hw; go_simp⟩) ⟨fun _ => trivial, hG⟩ ?_
                  simp only [Act.put, List.setIfInBounds_toArray, List.set_cons_zero, List.set_cons_succ]
                  refine takeG_l (i := 10) (v := .slice (some ⟨b7, o7, none⟩) 1 c7) rfl (by kernel_rfl) (by kernel_rfl) (by kernel_rfl) (by rfl) (fun _ _ _ h => h) (.inl ⟨by rfl, by intro w' hw; have hc : w'.cell? ⟨g6, m, none⟩ = some (.slice (some ⟨b7, o7, none⟩) 1 c7) := hw.cell h6; go_simp⟩) ⟨fun _ => trivial, hG⟩ ?_
                  simp only [Act.put, List.setIfInBounds_toArray, List.set_cons_zero, List.set_cons_succ]
                  refine takeG_l (i := 11) (v := .pointer (some ⟨b7, o7, none⟩)) rfl (by kernel_rfl) (by kernel_rfl) (by kernel_rfl) (by rfl) (fun _ _ _ h => h) (.inl ⟨by rfl, by intro w' hw; go_simp⟩) ⟨fun _ => trivial, hG⟩ ?_
                  simp only [Act.put, List.setIfInBounds_toArray, List.set_cons_zero, List.set_cons_succ]
                  refine takeG_l (i := 12) (v := .int .i64 (m : Int)) rfl (by kernel_rfl) (by kernel_rfl) (by kernel_rfl) (by rfl) (fun _ _ _ h => h) (.inl ⟨by rfl, by intro w' hw; have hc : w'.cell? ⟨b7, o7, none⟩ = some (.int .i64 (m : Int)) := hw.cell h7; go_simp⟩) ⟨fun _ => trivial, hG⟩ ?_
                  simp only [Act.put, List.setIfInBounds_toArray, List.set_cons_zero, List.set_cons_succ]
                  refine takeG_l (i := 13) (v := .int .i64 (m : Int)) rfl (by kernel_rfl) (by kernel_rfl) (by kernel_rfl) (by rfl) (fun _ _ _ h => h) (.inl ⟨by rfl, by intro w' hw; go_simp⟩) ⟨fun _ => trivial, hG⟩ ?_
                  simp only [Act.put, List.setIfInBounds_toArray, List.set_cons_zero, List.set_cons_succ]
                  refine takeG_l (i := 14) (v := .bool false) rfl (by kernel_rfl) (by kernel_rfl) (by kernel_rfl) (by rfl) (fun _ _ _ h => h) (.inl ⟨by rfl, by intro w' hw; go_simp⟩) ⟨fun _ => trivial, hG⟩ ?_
                  simp only [Act.put, List.setIfInBounds_toArray, List.set_cons_zero, List.set_cons_succ]
                  refine takeG_l (i := 15) (v := .bool false) rfl (by kernel_rfl) (by kernel_rfl) (by kernel_rfl) (by rfl) (fun _ _ _ h => h) (.inl ⟨by rfl, by intro w' hw; go_simp⟩) ⟨fun _ => trivial, hG⟩ ?_
                  simp only [Act.put, List.setIfInBounds_toArray, List.set_cons_zero, List.set_cons_succ]
                  refine takeG_l (i := 16) (v := .bool false) rfl (by kernel_rfl) (by kernel_rfl) (by kernel_rfl) (by rfl) (fun _ _ _ h => h) (.inl ⟨by rfl, by intro w' hw; go_simp⟩) ⟨fun _ => trivial, hG⟩ ?_
                  simp only [Act.put, List.setIfInBounds_toArray, List.set_cons_zero, List.set_cons_succ]
                  refine takeG_l (i := 17) (v := .bool true) rfl (by kernel_rfl) (by kernel_rfl) (by kernel_rfl) (by rfl) (fun _ _ _ h => h) (.inl ⟨by rfl, by intro w' hw; go_simp⟩) ⟨fun _ => trivial, hG⟩ ?_
                  simp only [Act.put, List.setIfInBounds_toArray, List.set_cons_zero, List.set_cons_succ]
                  refine takeG_l (i := 18) (v := .int .i64 (m : Int)) rfl (by kernel_rfl) (by kernel_rfl) (by kernel_rfl) (by rfl) (fun _ _ _ h => h) (.inl ⟨by rfl, by intro w' hw; go_simp⟩) ⟨fun _ => trivial, hG⟩ ?_
                  simp only [Act.put, List.setIfInBounds_toArray, List.set_cons_zero, List.set_cons_succ]
                  refine takeG_l (i := 19) (v := .pointer (some ⟨V, 2, none⟩)) rfl (by kernel_rfl) (by kernel_rfl) (by kernel_rfl) (by rfl) (fun _ _ _ h => h) (.inl ⟨by rfl, by intro w' hw; go_simp⟩) ⟨fun _ => trivial, hG⟩ ?_
                  simp only [Act.put, List.setIfInBounds_toArray, List.set_cons_zero, List.set_cons_succ]
                  refine takeG_l (i := 20) (v := .slice (some ⟨by', oy, none⟩) L c) rfl (by kernel_rfl) (by kernel_rfl) (by kernel_rfl) (by rfl) (fun _ _ _ h => h) (.inl ⟨by rfl, by intro w' hw; have hc : w'.cell? ⟨V, 2, none⟩ = some (.slice (some ⟨by', oy, none⟩) L c) := hw.cell hv2; go_simp⟩) ⟨fun _ => trivial, hG⟩ ?_
                  simp only [Act.put, List.setIfInBounds_toArray, List.set_cons_zero, List.set_cons_succ]
                  refine takeG_l (i := 21) (v := .int .i64 (L : Int)) rfl (by kernel_rfl) (by kernel_rfl) (by kernel_rfl) (by rfl) (fun _ _ _ h => h) (.inl ⟨by rfl, by intro w' hw; go_simp⟩) ⟨fun _ => trivial, hG⟩ ?_
                  simp only [Act.put, List.setIfInBounds_toArray, List.set_cons_zero, List.set_cons_succ]
                  refine takeG_l (i := 22) (v := .bool true) rfl (by kernel_rfl) (by kernel_rfl) (by kernel_rfl) (by rfl) (fun _ _ _ h => h) (.inl ⟨by rfl, by intro w' hw; go_simp⟩) ⟨fun _ => trivial, hG⟩ ?_
                  simp only [Act.put, List.setIfInBounds_toArray, List.set_cons_zero, List.set_cons_succ]
                  refine takeG_l (i := 23) (v := .bool false) rfl (by kernel_rfl) (by kernel_rfl) (by kernel_rfl) (by rfl) (fun _ _ _ h => h) (.inl ⟨by rfl, by intro w' hw; go_simp⟩) ⟨fun _ => trivial, hG⟩ ?_
                  simp only [Act.put, List.setIfInBounds_toArray, List.set_cons_zero, List.set_cons_succ]
                  refine takeG_l (i := 24) (v := .bool false) rfl (by kernel_rfl) (by kernel_rfl) (by kernel_rfl) (by rfl) (fun _ _ _ h => h) (.inl ⟨by rfl, by intro w' hw; go_simp⟩) ⟨fun _ => trivial, hG⟩ ?_
                  simp only [Act.put, List.setIfInBounds_toArray, List.set_cons_zero, List.set_cons_succ]
                  refine takeG_l (i := 25) (v := .bool false) rfl (by kernel_rfl) (by kernel_rfl) (by kernel_rfl) (by rfl) (fun _ _ _ h => h) (.inl ⟨by rfl, by intro w' hw; go_simp⟩) ⟨fun _ => trivial, hG⟩ ?_
                  simp only [Act.put, List.setIfInBounds_toArray, List.set_cons_zero, List.set_cons_succ]
                  refine takeG_l (i := 26) (v := .bool true) rfl (by kernel_rfl) (by kernel_rfl) (by kernel_rfl) (by rfl) (fun _ _ _ h => h) (.inl ⟨by rfl, by intro w' hw; go_simp⟩) ⟨fun _ => trivial, hG⟩ ?_
                  simp only [Act.put, List.setIfInBounds_toArray, List.set_cons_zero, List.set_cons_succ]
                  refine takeG_l (i := 27) (v := .bool true) rfl (by kernel_rfl) (by kernel_rfl) (by kernel_rfl) (by rfl) (fun _ _ _ h => h) (.inl ⟨by rfl, by intro w' hw; go_simp⟩) ⟨fun _ => trivial, hG⟩ ?_
                  simp only [Act.put, List.setIfInBounds_toArray, List.set_cons_zero, List.set_cons_succ]
                  refine takeG_l (i := 28) (v := .agg #[.int .i64 y.kind, .int .i64 y.n, .slice Ay Ly cy]) rfl (by kernel_rfl) (by kernel_rfl) (by kernel_rfl) (by rfl) (fun _ _ _ h => h) (.inl ⟨by rfl, by intro w' hw; have hb := hw.block bX; have q0 := cell_of_row _ _ 0 _ _ _ hb; have q1 := cell_of_row _ _ 1 _ _ _ hb; have q2 := cell_of_row _ _ 2 _ _ _ hb; go_simp⟩) ⟨fun _ => trivial, hG⟩ ?_
                  simp only [Act.put, List.setIfInBounds_toArray, List.set_cons_zero, List.set_cons_succ]
                  refine takeG_l (i := 29) (v := .pointer (some ⟨V, 2, none⟩)) rfl (by kernel_rfl) (by kernel_rfl) (by kernel_rfl) (by rfl) (fun _ _ _ h => h) (.inl ⟨by rfl, by intro w' hw; go_simp⟩) ⟨fun _ => trivial, hG⟩ ?_
                  simp only [Act.put, List.setIfInBounds_toArray, List.set_cons_zero, List.set_cons_succ]
                  refine takeG_l (i := 30) (v := .slice (some ⟨by', oy, none⟩) L c) rfl (by kernel_rfl) (by kernel_rfl) (by kernel_rfl) (by rfl) (fun _ _ _ h => h) (.inl ⟨by rfl, by intro w' hw; have hc : w'.cell? ⟨V, 2, none⟩ = some (.slice (some ⟨by', oy, none⟩) L c) := hw.cell hv2; go_simp⟩) ⟨fun _ => trivial, hG⟩ ?_
                  simp only [Act.put, List.setIfInBounds_toArray, List.set_cons_zero, List.set_cons_succ]
                  refine takeG_l (i := 31) (v := .int .i64 (m : Int)) rfl (by kernel_rfl) (by kernel_rfl) (by kernel_rfl) (by rfl) (fun _ _ _ h => h) (.inl ⟨by rfl, by intro w' hw; go_simp⟩) ⟨fun _ => trivial, hG⟩ ?_
                  simp only [Act.put, List.setIfInBounds_toArray, List.set_cons_zero, List.set_cons_succ]
                  refine takeG_l (i := 32) (v := .pointer (some ⟨by', oy + m * 3, none⟩)) rfl (by kernel_rfl) (by kernel_rfl) (by kernel_rfl) (by rfl) (fun _ _ _ h => h) (.inl ⟨by rfl, by intro w' hw; go_simp⟩) ⟨fun _ => trivial, hG⟩ ?_
                  simp only [Act.put, List.setIfInBounds_toArray, List.set_cons_zero, List.set_cons_succ]
                  refine takeG_l (i := 33) (v := .agg #[.int .i64 y.kind, .int .i64 y.n, .slice Ay Ly cy]) rfl (by kernel_rfl) (by kernel_rfl) (by kernel_rfl) (by rfl) (fun _ _ _ h => h) (.inl ⟨by rfl, by intro w' hw; have q0 := hw.cell hy0; have q1 := hw.cell hy1; have q2 := hw.cell hy2; go_simp⟩) ⟨fun _ => trivial, hG⟩ ?_
                  simp only [Act.put, List.setIfInBounds_toArray, List.set_cons_zero, List.set_cons_succ]
                  generalize wc.drew = Wd at hG ⊢
                  refine onlyL_l (i := 34) (by kernel_rfl) rfl (by rfl) (fun K hK => ?_)
                  go_simp
                  refine (hSame.out Wd (hG8.trans hG)).mono ?_
                  rintro r w9 ⟨rfl, nc⟩
                  replace hG := hG.trans nc
                  refine hK.out _ _ ⟨fun _ => trivial, hG⟩ (fun _ => ?_)
                  clear hK K
                  simp only [Act.put, List.setIfInBounds_toArray, List.set_cons_zero, List.set_cons_succ]
                  refine takeG_l (i := 35) (v := .bool false) rfl (by kernel_rfl) (by kernel_rfl) (by kernel_rfl) (by rfl) (fun _ _ _ h => h) (.inl ⟨by rfl, by intro w' hw; go_simp⟩) ⟨fun _ => trivial, hG⟩ ?_
                  simp only [Act.put, List.setIfInBounds_toArray, List.set_cons_zero, List.set_cons_succ]
                  refine takeG_l (i := 36) (v := .bool false) rfl (by kernel_rfl) (by kernel_rfl) (by kernel_rfl) (by rfl) (fun _ _ _ h => h) (.inl ⟨by rfl, by intro w' hw; go_simp⟩) ⟨fun _ => trivial, hG⟩ ?_
                  simp only [Act.put, List.setIfInBounds_toArray, List.set_cons_zero, List.set_cons_succ]
                  refine takeG_l (i := 37) (v := .bool false) rfl (by kernel_rfl) (by kernel_rfl) (by kernel_rfl) (by rfl) (fun _ _ _ h => h) (.inl ⟨by rfl, by intro w' hw; go_simp⟩) ⟨fun _ => trivial, hG⟩ ?_
                  simp only [Act.put, List.setIfInBounds_toArray, List.set_cons_zero, List.set_cons_succ]
                  refine doneL (by kernel_rfl) ?_ _
                  have hgn := hgm.trans (hG8.trans hG)
                  clear h6 h7 hv2 hy0 hy1 hy2 bX hG8 hG
                  go_wp2_with fail
                  exact ⟨⟨m + 1, by omega, by simp, hgn⟩, by simp [intOf] <;> omega⟩
              · have hmL2 : ¬ (m : Int) < (L : Int) := by omega
                have hat : v.atP [(m : Int)] = none := by
                  rw [Vl.atP, if_neg (by omega), show ((m : Int)).toNat = m by omega, List.getElem?_eq_none (by rw [hL.out]; omega)]
                rw [hat] at hAt0
                replace hAt0 : ∀ W, Nb w6 W → Calls Try.prog 18 #[.agg #[.int .i64 vk, .int .i64 vn, .slice A L c], .slice (some ⟨b7, o7, none⟩) 1 c7] W fun r w' => r = .returned (.tuple #[.agg #[.int .i64 0, .int .i64 0, .slice none 0 0], .bool false]) ∧ Nb W w' := hAt0
                have hAt := Lib.hid (fun W (h : Nb wr W) => hAt0 W (n6m.trans h))
                clear hAt0 hat
                go_upto_region 18 with (fail)
                go_cut [13, 14] from 85 to 93 (fun s13 s14 wx => ∃ X, s13 = .pointer (some ⟨X, 0, none⟩) ∧ s14 = .bool false ∧ Nb wr wx ∧ wx.heap[X]? = some (.cells #[.int .i64 0, .int .i64 0, .slice none 0 0] 31 (0, 0)))
                case first =>
                  have hG : Nb wr wr.drew := drew1P (Nb.refl wr)
                  refine wp_region_late [] (fun _ => True) (fun w' => Nb wr w') (by kernel_rfl) ⟨fun _ => trivial, hG⟩ (fun _ => ?_)
                  change wpAnyL _ _ _ _ _ _ _ 12 (List.toArray [false, false, false, false, false, false, false, false, false, false, false, false]) _ _
                  refine takeG_l (i := 0) (v := .agg #[.int .i64 vk, .int .i64 vn, .slice A L c]) rfl (by kernel_rfl) (by kernel_rfl) (by kernel_rfl) (by rfl) (fun _ _ _ h => h) (.inl ⟨by rfl, by intro w' hw; have hb := hw.block bVm; have z0 := cell_of_row _ _ 0 _ _ _ hb; have z1 := cell_of_row _ _ 1 _ _ _ hb; have z2 := cell_of_row _ _ 2 _ _ _ hb; go_simp⟩) ⟨fun _ => trivial, hG⟩ ?_
                  simp only [Act.put, List.setIfInBounds_toArray, List.set_cons_zero, List.set_cons_succ]
                  refine takeG_l (i := 1) (v := .slice (some ⟨g6, 0, none⟩) i i) rfl (by kernel_rfl) (by kernel_rfl) (by kernel_rfl) (by rfl) (fun _ _ _ h => h) (.inl ⟨by rfl, by intro w' hw; go_simp⟩) ⟨fun _ => trivial, hG⟩ ?_
                  simp only [Act.put, List.setIfInBounds_toArray, List.set_cons_zero, List.set_cons_succ]
                  refine takeG_l (i := 2) (v := .int .i64 (m : Int)) rfl (by kernel_rfl) (by kernel_rfl) (by kernel_rfl) (by rfl) (fun _ _ _ h => h) (.inl ⟨by rfl, by intro w' hw; go_simp⟩) ⟨fun _ => trivial, hG⟩ ?_
                  simp only [Act.put, List.setIfInBounds_toArray, List.set_cons_zero, List.set_cons_succ]
                  refine takeG_l (i := 3) (v := .pointer (some ⟨g6, m, none⟩)) rfl (by kernel_rfl) (by kernel_rfl) (by kernel_rfl) (by rfl) (fun _ _ _ h => h) (.inl ⟨by rfl, by intro w' hw; go_simp⟩) ⟨fun _ => trivial, hG⟩ ?_
                  simp only [Act.put, List.setIfInBounds_toArray, List.set_cons_zero, List.set_cons_succ]
                  refine takeG_l (i := 4) (v := .slice (some ⟨b7, o7, none⟩) 1 c7) rfl (by kernel_rfl) (by kernel_rfl) (by kernel_rfl) (by rfl) (fun _ _ _ h => h) (.inl ⟨by rfl, by intro w' hw; have hc : w'.cell? ⟨g6, m, none⟩ = some (.slice (some ⟨b7, o7, none⟩) 1 c7) := hw.cell k6; go_simp⟩) ⟨fun _ => trivial, hG⟩ ?_
                  simp only [Act.put, List.setIfInBounds_toArray, List.set_cons_zero, List.set_cons_succ]
                  generalize wr.drew = Wd at hG ⊢
                  refine twoL_l (i := 5) (j := 9) (by kernel_rfl) rfl rfl (by rfl) (by rfl) (fun K hK => ?bc) (fun K hK => ?bd)
                  case' bc =>
                    go_simp
                    refine (hAt.out Wd hG).mono ?_
                    rintro r w5 ⟨rfl, nc⟩
                    replace hG := hG.trans nc
                    refine hK.out _ _ ⟨fun _ => trivial, hG⟩ (fun _ => ?_)
                    clear hK K
                    simp only [Act.put, List.setIfInBounds_toArray, List.set_cons_zero, List.set_cons_succ]
                    refine takeG_l (i := 6) (v := .tuple #[.agg #[.int .i64 0, .int .i64 0, .slice none 0 0], .bool false]) rfl (by kernel_rfl) (by kernel_rfl) (by kernel_rfl) (by rfl) (fun _ _ _ h => h) (.inl ⟨by rfl, by intro w' hw; go_simp⟩) ⟨fun _ => trivial, hG⟩ ?_
                    simp only [Act.put, List.setIfInBounds_toArray, List.set_cons_zero, List.set_cons_succ]
                    refine takeG_l (i := 7) (v := .agg #[.int .i64 0, .int .i64 0, .slice none 0 0]) rfl (by kernel_rfl) (by kernel_rfl) (by kernel_rfl) (by rfl) (fun _ _ _ h => h) (.inl ⟨by rfl, by intro w' hw; go_simp⟩) ⟨fun _ => trivial, hG⟩ ?_
                    simp only [Act.put, List.setIfInBounds_toArray, List.set_cons_zero, List.set_cons_succ]
                    refine takeG_l (i := 8) (v := .bool false) rfl (by kernel_rfl) (by kernel_rfl) (by kernel_rfl) (by rfl) (fun _ _ _ h => h) (.inl ⟨by rfl, by intro w' hw; go_simp⟩) ⟨fun _ => trivial, hG⟩ ?_
                    simp only [Act.put, List.setIfInBounds_toArray, List.set_cons_zero, List.set_cons_succ]
                    refine onlyL_l (i := 9) (by kernel_rfl) rfl (by rfl) (fun K hK => ?_)
                    go_simp
                    refine hK.out _ _ ⟨fun _ => trivial, hG.alloc _⟩ (fun _ => ?_)
                    clear hK K
                    simp only [Act.put, List.setIfInBounds_toArray, List.set_cons_zero, List.set_cons_succ]
                    have bN : (w5.alloc (Obj.cells #[.int .i64 0, .int .i64 0, .slice none 0 0] 31)).heap[w5.heap.size]? = some (.cells #[.int .i64 0, .int .i64 0, .slice none 0 0] 31 (0, 0)) := new_blk _ _ rfl
                    have hgW : wr.heap.size ≤ w5.heap.size := hG.size
                    replace hG := hG.alloc (Obj.cells #[.int .i64 0, .int .i64 0, .slice none 0 0] 31)
                    generalize w5.alloc (Obj.cells #[.int .i64 0, .int .i64 0, .slice none 0 0] 31) = wx at hG bN ⊢
                    obtain ⟨X, hX⟩ : ∃ X, w5.heap.size = X := ⟨_, rfl⟩
                    rw [hX] at bN hgW ⊢
                    clear hX
                  case' bd =>
                    go_simp
                    refine hK.out _ _ ⟨fun _ => trivial, hG.alloc _⟩ (fun _ => ?_)
                    clear hK K
                    simp only [Act.put, List.setIfInBounds_toArray, List.set_cons_zero, List.set_cons_succ]
                    have bN : (Wd.alloc (Obj.cells #[.int .i64 0, .int .i64 0, .slice none 0 0] 31)).heap[Wd.heap.size]? = some (.cells #[.int .i64 0, .int .i64 0, .slice none 0 0] 31 (0, 0)) := new_blk _ _ rfl
                    have hgW : wr.heap.size ≤ Wd.heap.size := hG.size
                    replace hG := hG.alloc (Obj.cells #[.int .i64 0, .int .i64 0, .slice none 0 0] 31)
                    generalize Wd.alloc (Obj.cells #[.int .i64 0, .int .i64 0, .slice none 0 0] 31) = w5 at hG bN ⊢
                    obtain ⟨X, hX⟩ : ∃ X, Wd.heap.size = X := ⟨_, rfl⟩
                    rw [hX] at bN hgW ⊢
                    clear hX
                    refine onlyL_l (i := 5) (by kernel_rfl) rfl (by rfl) (fun K hK => ?_)
                    go_simp
                    refine (hAt.out w5 hG).mono ?_
                    rintro r wx ⟨rfl, nc⟩
                    replace hG := hG.trans nc
                    replace bN := nc.block bN
                    refine hK.out _ _ ⟨fun _ => trivial, hG⟩ (fun _ => ?_)
                    clear hK K
                    simp only [Act.put, List.setIfInBounds_toArray, List.set_cons_zero, List.set_cons_succ]
                    refine takeG_l (i := 6) (v := .tuple #[.agg #[.int .i64 0, .int .i64 0, .slice none 0 0], .bool false]) rfl (by kernel_rfl) (by kernel_rfl) (by kernel_rfl) (by rfl) (fun _ _ _ h => h) (.inl ⟨by rfl, by intro w' hw; go_simp⟩) ⟨fun _ => trivial, hG⟩ ?_
                    simp only [Act.put, List.setIfInBounds_toArray, List.set_cons_zero, List.set_cons_succ]
                    refine takeG_l (i := 7) (v := .agg #[.int .i64 0, .int .i64 0, .slice none 0 0]) rfl (by kernel_rfl) (by kernel_rfl) (by kernel_rfl) (by rfl) (fun _ _ _ h => h) (.inl ⟨by rfl, by intro w' hw; go_simp⟩) ⟨fun _ => trivial, hG⟩ ?_
                    simp only [Act.put, List.setIfInBounds_toArray, List.set_cons_zero, List.set_cons_succ]
                    refine takeG_l (i := 8) (v := .bool false) rfl (by kernel_rfl) (by kernel_rfl) (by kernel_rfl) (by rfl) (fun _ _ _ h => h) (.inl ⟨by rfl, by intro w' hw; go_simp⟩) ⟨fun _ => trivial, hG⟩ ?_
                    simp only [Act.put, List.setIfInBounds_toArray, List.set_cons_zero, List.set_cons_succ]
                  all_goals
                    refine onlyL_l (i := 10) (by kernel_rfl) rfl (by rfl) (fun K hK => ?_)
                    have s0 : wx.cell? ⟨X, 0, none⟩ = some (.int .i64 0) := cell_of_row _ _ 0 _ _ _ bN
                    have s1 : wx.cell? ⟨X, 1, none⟩ = some (.int .i64 0) := cell_of_row _ _ 1 _ _ _ bN
                    have s2 : wx.cell? ⟨X, 2, none⟩ = some (.slice none 0 0) := cell_of_row _ _ 2 _ _ _ bN
                    have f0 : wx.frozen? ⟨X, 0, none⟩ = false := frozen_blk bN 0
                    have f1 : wx.frozen? ⟨X, 1, none⟩ = false := frozen_blk bN 1
                    have f2 : wx.frozen? ⟨X, 2, none⟩ = false := frozen_blk bN 2
                    go_simp
                    have hG8 : Nb wr (((wx.setCell ⟨X, 0, none⟩ (.int .i64 0)).setCell ⟨X, 1, none⟩ (.int .i64 0)).setCell ⟨X, 2, none⟩ (.slice none 0 0)) := set3_nb hG hgW _ _ _
                    have bX := set3P (x := .int .i64 0) (y := .int .i64 0) (z := .slice none 0 0) bN
                    refine hK.out _ _ ⟨fun _ => trivial, hG8⟩ (fun _ => ?_)
                    clear hK K s0 s1 s2 f0 f1 f2 hG bN
                    simp only [Act.put, List.setIfInBounds_toArray, List.set_cons_zero, List.set_cons_succ]
                    generalize ((wx.setCell ⟨X, 0, none⟩ (.int .i64 0)).setCell ⟨X, 1, none⟩ (.int .i64 0)).setCell ⟨X, 2, none⟩ (.slice none 0 0) = w8' at hG8 bX ⊢
                    have hG := hG8
                    refine takeG_l (i := 11) (v := .bool false) rfl (by kernel_rfl) (by kernel_rfl) (by kernel_rfl) (by rfl) (fun _ _ _ h => h) (.inl ⟨by rfl, by intro w' hw; go_simp⟩) ⟨fun _ => trivial, hG⟩ ?_
                    simp only [Act.put, List.setIfInBounds_toArray, List.set_cons_zero, List.set_cons_succ]
                    refine doneL (by kernel_rfl) ?_ _
                    go_wp2_with fail
                    go_meet
                    exact ⟨X, rfl, rfl, hG8, bX⟩
                case rest =>
                  obtain ⟨X, rfl, rfl, hG8, bX⟩ := hcut
                  have h6 := hG8.cell k6
                  have h7 := hG8.cell k7
                  have hv2 := hG8.cell bv2
                  have h8 := cell_of_row _ _ 0 _ _ _ bX
                  have h9 := cell_of_row _ _ 1 _ _ _ bX
                  have h10 := cell_of_row _ _ 2 _ _ _ bX
                  go_upto_region 19 with (fail)
                  go_quiet (fail)
                  have hgn := hgm.trans (hG8.trans ((Nb.refl wc).drewN nq))
                  clear h6 h7 hv2 h8 h9 h10 bX hG8
                  go_wp2_with fail
                  exact ⟨⟨m + 1, by omega, by simp, hgn⟩, by simp [intOf] <;> omega⟩
            · obtain rfl : m = i := by omega
              have hlt2 : ¬ (m : Int) < (m : Int) := by omega
              have hbb : (fb == fb) = true := by simp
              simp only [List.map_nil, List.length_nil, Nat.zero_mul, Nat.zero_add] at r50 r51 r52
              have q0 := hgm.cell r50
              have q1 := hgm.cell r51
              have q2 := hgm.cell r52
              go_upto_region 22 with (fail)
              have hG : Nb wr wr.drew := drew1P (Nb.refl wr)
              refine wp_region_late [] (fun _ => True) (fun w' => Nb wr w') (by kernel_rfl) ⟨fun _ => trivial, hG⟩ (fun _ => ?_)
              change wpAnyL _ _ _ _ _ _ _ 11 (List.toArray [false, false, false, false, false, false, false, false, false, false, false]) _ _
              refine takeG_l (i := 0) (v := .slice (some ⟨g5, 0, none⟩) 1 1) rfl (by kernel_rfl) (by kernel_rfl) (by kernel_rfl) (by rfl) (fun _ _ _ h => h) (.inl ⟨by rfl, by intro w' hw; go_simp⟩) ⟨fun _ => trivial, hG⟩ ?_
              simp only [Act.put, List.setIfInBounds_toArray, List.set_cons_zero, List.set_cons_succ]
              refine takeG_l (i := 1) (v := .pointer (some ⟨g5, 0, none⟩)) rfl (by kernel_rfl) (by kernel_rfl) (by kernel_rfl) (by rfl) (fun _ _ _ h => h) (.inl ⟨by rfl, by intro w' hw; go_simp⟩) ⟨fun _ => trivial, hG⟩ ?_
              simp only [Act.put, List.setIfInBounds_toArray, List.set_cons_zero, List.set_cons_succ]
              refine takeG_l (i := 2) (v := .agg #[.slice A5 0 cA5, .int .i64 5, .int .i64 (m : Int)]) rfl (by kernel_rfl) (by kernel_rfl) (by kernel_rfl) (by rfl) (fun _ _ _ h => h) (.inl ⟨by rfl, by intro w' hw; have c0 := hw.cell q0; have c1 := hw.cell q1; have c2 := hw.cell q2; go_simp⟩) ⟨fun _ => trivial, hG⟩ ?_
              simp only [Act.put, List.setIfInBounds_toArray, List.set_cons_zero, List.set_cons_succ]
              refine takeG_l (i := 3) (v := .agg #[.int .i64 vk, .int .i64 vn, .slice A L c]) rfl (by kernel_rfl) (by kernel_rfl) (by kernel_rfl) (by rfl) (fun _ _ _ h => h) (.inl ⟨by rfl, by intro w' hw; have hb := hw.block bVm; have z0 := cell_of_row _ _ 0 _ _ _ hb; have z1 := cell_of_row _ _ 1 _ _ _ hb; have z2 := cell_of_row _ _ 2 _ _ _ hb; go_simp⟩) ⟨fun _ => trivial, hG⟩ ?_
              simp only [Act.put, List.setIfInBounds_toArray, List.set_cons_zero, List.set_cons_succ]
              refine takeG_l (i := 5) (v := .bool fb) rfl (by kernel_rfl) (by kernel_rfl) (by kernel_rfl) (by rfl) (fun _ _ _ h => h) (.inl ⟨by rfl, by intro w' hw; go_simp⟩) ⟨fun _ => trivial, hG⟩ ?_
              simp only [Act.put, List.setIfInBounds_toArray, List.set_cons_zero, List.set_cons_succ]
              generalize wr.drew = Wd at hG ⊢
              refine onlyL_l (i := 4) (by kernel_rfl) rfl (by rfl) (fun K hK => ?_)
              go_simp
              refine (hft.out Wd (hgm.trans hG)).mono ?_
              rintro r w9 ⟨rfl, nc⟩
              replace hG := hG.trans nc
              refine hK.out _ _ ⟨fun _ => trivial, hG⟩ (fun _ => ?_)
              clear hK K
              simp only [Act.put, List.setIfInBounds_toArray, List.set_cons_zero, List.set_cons_succ]
              refine takeG_l (i := 6) (v := .bool true) rfl (by kernel_rfl) (by kernel_rfl) (by kernel_rfl) (by rfl) (fun _ _ _ h => h) (.inl ⟨by rfl, by intro w' hw; go_simp⟩) ⟨fun _ => trivial, hG⟩ ?_
              simp only [Act.put, List.setIfInBounds_toArray, List.set_cons_zero, List.set_cons_succ]
              refine takeG_l (i := 7) (v := .bool true) rfl (by kernel_rfl) (by kernel_rfl) (by kernel_rfl) (by rfl) (fun _ _ _ h => h) (.inl ⟨by rfl, by intro w' hw; go_simp⟩) ⟨fun _ => trivial, hG⟩ ?_
              simp only [Act.put, List.setIfInBounds_toArray, List.set_cons_zero, List.set_cons_succ]
              refine onlyL_l (i := 8) (by kernel_rfl) rfl (by rfl) (fun K hK => ?_)
              go_simp
              refine (lives_any w9).mono ?_
              rintro r w10 ⟨rfl, nc⟩
              replace hG := hG.trans nc
              refine hK.out _ _ ⟨fun _ => trivial, hG⟩ (fun _ => ?_)
              clear hK K
              simp only [Act.put, List.setIfInBounds_toArray, List.set_cons_zero, List.set_cons_succ]
              refine takeG_l (i := 9) (v := .bool true) rfl (by kernel_rfl) (by kernel_rfl) (by kernel_rfl) (by rfl) (fun _ _ _ h => h) (.inl ⟨by rfl, by intro w' hw; go_simp⟩) ⟨fun _ => trivial, hG⟩ ?_
              simp only [Act.put, List.setIfInBounds_toArray, List.set_cons_zero, List.set_cons_succ]
              refine takeG_l (i := 10) (v := .bool true) rfl (by kernel_rfl) (by kernel_rfl) (by kernel_rfl) (by rfl) (fun _ _ _ h => h) (.inl ⟨by rfl, by intro w' hw; go_simp⟩) ⟨fun _ => trivial, hG⟩ ?_
              simp only [Act.put, List.setIfInBounds_toArray, List.set_cons_zero, List.set_cons_succ]
              refine doneL (by kernel_rfl) ?_ _
              have hlast := Lib.hid (nw8.out.trans (hgm.trans hG))
              go_wp2_with fail
              go_ret
              exact ⟨rfl, hlast.out⟩
/-! The row's step. -/
set_option maxRecDepth 100000 in
set_option maxHeartbeats 1000000 in
theorem lifted (os : Os) (started : os.Started) (H : Type) (enc : TypeId × Value → H) :
    ReturnsInHanded {} Try.checked os 4 .any (Rows.patternWildSpec.pre6 enc Try.prog Try.f4 Rows.patternWildRow.domain false)
      (Rows.patternWildSpec.post enc Try.prog Try.f4 false true false false) := by
  refine returnsInHanded_of_change (C := Try.checked) own started (by kernel_rfl) Try.func4
    (ChangeSpec.witness6 (enc := enc) (C := Try.checked) false ⟨#[], #[.agg #[.int .i64 0, .int .i64 0, .slice none 0 0], .int .i64 0], []⟩ 8 (by kernel_rfl) (by kernel_rfl) (by kernel_rfl) (by kernel_rfl)) ?_
  intro W base args ds gs before hval0 hW _ _
  have hval : ∀ (j : Nat) t v, Try.f4.params[j]? = some t → args[j]? = some v → Value.okWide Try.prog W .any base t v := hval0
  have hW' := hW
  obtain ⟨p, q, hA0, hV, rfl, hfz, hnd⟩ := hW
  have hA1 : DataW.TrodAll enc Try.prog W 0 (fun _ => true) true Try.f4.params.toList args.toList ds p := hA0
  have hA := hA1
  rw [Try.params4] at hA hval
  obtain ⟨v0, vs0, d0, ds0, p0, q0, hargs0, rfl, -, h0, r0⟩ := trodAll_cons hA
  obtain ⟨v1, vs1, d1, ds1, p1, q1, hargs1, rfl, -, h1, r1⟩ := trodAll_cons r0
  obtain ⟨rfl, rfl, -⟩ := trodAll_nil r1
  obtain rfl : args = #[v0, v1] := by cases args; simp_all
  obtain ⟨rfl, rfl⟩ := trodVars_none hV
  obtain ⟨q0, rfl, hq0⟩ := open_value (hval 0 31 v0 rfl rfl) h0
  obtain ⟨n1, rfl, -, -, w1⟩ := open_int Try.underlying3 (hval 1 3 v1 rfl rfl) h1
  clear hval0
  simp only [List.append_nil] at hW'
  refine (walk q0 n1 (i64_of w1) W hq0).mono fun e W' ⟨he, hg⟩ => ?_
  subst he
  exact ⟨_, rfl, post_of_nb (pa := p) (pv := []) hW' (fun _ _ _ => (trodAll_cons_mk (shut_bool Try.underlying4 _) trodAll_mk0))
    (fun sp hsp => args_stay (by kernel_rfl) hg hA1 (fun t ht => by
      have h0 : (Try.f4.params.toList.all fun t => Try.prog.readableRec t && decide (t < Try.prog.types.size)) = true := by kernel_rfl
      have h1 := List.all_eq_true.1 h0 t ht
      rw [Bool.and_eq_true, decide_eq_true_eq] at h1
      exact h1) (fun x hx => hW'.lt x hx) hsp)
    (fun _ _ => rfl) (by simp) hg (ok_one (by kernel_rfl) rfl (okWide_bool_mk Try.underlying4 _))⟩
theorem over : Rows.patternWildRow.holds Try.pinned (OpenSpec.ofChange Rows.patternWildSpec) :=
  OpenClaim.holds_of_wide 4 Try.f4 rfl rfl rfl rfl rfl rfl rfl ⟨rfl, rfl, rfl, rfl, rfl⟩ rfl rfl rfl rfl rfl (by kernel_rfl) Try.func4 (by kernel_rfl)
    (of_decide_eq_true (by kernel_rfl)) (by unfold Func.isWrapper; first | (rw [if_pos (by decide +kernel)]; kernel_rfl) | (rw [if_neg (by decide +kernel)]; exact ⟨rfl, rfl⟩))
    (fun os started H enc _ => lifted os started H enc)
/-- The statement. -/
theorem proved : Rows.PatternWildSaid := over
#print axioms proved
end Go.Proofs.Ytchcfjlkgnlnoaa.patternWild
