/-
  Proved here: the reference's value of a tuple's word, any depth. Conditions: the memory holds the words; they are words.
-/
import Derived.Test.YtmoggaecnjcjfaaXf
namespace Go.Proofs.Ytmoggaecnjcjfaa
open Go.RowKit Go.ChangeMaps
set_option linter.unusedVariables false
set_option linter.unusedSimpArgs false
set_option maxRecDepth 100000
set_option maxHeartbeats 4000000
/-- What a tuple's word wants, a test behind the other. -/
theorem partsR_cases (xs : List Int) (bs a : Int) (hx : ∀ x ∈ xs, 0 ≤ x ∧ x < 18446744073709551616) :
    (partsR xs bs a = none ∧ a % 8 ≠ 0) ∨ (partsR xs bs a = none ∧ a % 8 = 0 ∧ a < bs) ∨ (partsR xs bs a = none ∧ a % 8 = 0 ∧ bs ≤ a ∧ (a - bs) % 8 ≠ 0) ∨
    (a % 8 = 0 ∧ bs ≤ a ∧ (a - bs) % 8 = 0 ∧ ∃ k : Nat, (a - bs) / 8 = (k : Int) ∧ (
      (partsR xs bs a = none ∧ xs.length ≤ k) ∨ (k < xs.length ∧ ∃ m, xs[k]? = some m ∧ 0 ≤ m ∧ m < 18446744073709551616 ∧ (
        (partsR xs bs a = none ∧ m < 1) ∨ (partsR xs bs a = none ∧ 4 < m) ∨ (partsR xs bs a = none ∧ 1 ≤ m ∧ m ≤ 4 ∧ (xs.length : Int) - k - 1 < m) ∨
        ∃ M : Nat, m = (M : Int) ∧ 1 ≤ M ∧ M ≤ 4 ∧ k + 1 + M ≤ xs.length ∧ partsR xs bs a = some ((xs.drop (k + 1)).take M))))) := by
  by_cases e1 : a % 8 = 0
  · by_cases e2 : a < bs
    · exact .inr (.inl ⟨by unfold partsR; rw [if_pos (.inr (.inl e2))], e1, e2⟩)
    · by_cases e3 : (a - bs) % 8 = 0
      · obtain ⟨k, hk⟩ : ∃ k : Nat, (a - bs) / 8 = (k : Int) := ⟨((a - bs) / 8).toNat, by omega⟩
        have hkn : ((a - bs) / 8).toNat = k := by omega
        have hP : partsR xs bs a = if xs.length ≤ k then none else if xs.getD k 0 < 1 ∨ 4 < xs.getD k 0 ∨ ((xs.length - k - 1 : Nat) : Int) < xs.getD k 0 then none else some ((xs.drop (k + 1)).take (xs.getD k 0).toNat) := by
          unfold partsR
          rw [if_neg (by omega), hkn]
        refine .inr (.inr (.inr ⟨e1, by omega, e3, k, hk, ?_⟩))
        by_cases e4 : xs.length ≤ k
        · exact .inl ⟨by rw [hP, if_pos e4], e4⟩
        · have hlt : k < xs.length := by omega
          have hg : xs.getD k 0 = xs[k] := by simp [List.getD, hlt]
          have hmr := hx _ (List.getElem_mem hlt)
          refine .inr ⟨hlt, xs[k], List.getElem?_eq_getElem hlt, hmr.1, hmr.2, ?_⟩
          rw [if_neg e4, hg] at hP
          by_cases f1 : xs[k] < 1
          · exact .inl ⟨by rw [hP, if_pos (.inl f1)], f1⟩
          · by_cases f2 : 4 < xs[k]
            · exact .inr (.inl ⟨by rw [hP, if_pos (.inr (.inl f2))], f2⟩)
            · by_cases f3 : ((xs.length - k - 1 : Nat) : Int) < xs[k]
              · exact .inr (.inr (.inl ⟨by rw [hP, if_pos (.inr (.inr f3))], by omega, by omega, by omega⟩))
              · exact .inr (.inr (.inr ⟨(xs[k]).toNat, by omega, by omega, by omega, by omega, by rw [hP, if_neg (by omega)]⟩))
      · exact .inr (.inr (.inl ⟨by unfold partsR; rw [if_pos (.inr (.inr e3))], e1, by omega, e3⟩))
  · exact .inl ⟨by unfold partsR; rw [if_pos (.inl e1)], e1⟩
/-- No list of a value lies in one block. -/
inductive Vl.Off (g : Nat) : Vl → Prop
  | mk {e : Vl} (blk : ∀ b o L c, e.av = .slice (some ⟨b, o, none⟩) L c → b ≠ g) (kids : ∀ x ∈ e.args, Vl.Off g x) : Vl.Off g e
theorem Vl.Off.blk {g : Nat} {e : Vl} (h : e.Off g) {b o L c : Nat} (he : e.av = .slice (some ⟨b, o, none⟩) L c) : b ≠ g := by cases h with | mk r _ => exact r b o L c he
theorem Vl.Off.kids {g : Nat} {e : Vl} (h : e.Off g) : ∀ x ∈ e.args, Vl.Off g x := by cases h with | mk _ k => exact k
theorem Vl.Frv.off_new {lb g : Nat} {w : World} {e : Vl} (h : e.Frv lb w) (hg : w.heap.size ≤ g) : e.Off g := by
  induction h with
  | mk b _ ih => exact .mk (fun b' o L c he => by obtain ⟨-, cs, hc⟩ := b b' o L c he; have := lt_blk hc; omega) ih
theorem Vl.Frv.off_low {lb g : Nat} {w : World} {e : Vl} (h : e.Frv lb w) (hg : g < lb) : e.Off g := by
  induction h with
  | mk b _ ih => exact .mk (fun b' o L c he => by have := (b b' o L c he).1; omega) ih
theorem keeps_off {lb G : Nat} {w w' : World} (g : ∀ b cs, b ≠ G → w.heap[b]? = some (.cells cs 24 (0, 0)) → w'.heap[b]? = some (.cells cs 24 (0, 0))) : ∀ (v : Vl), v.Has w → v.Frv lb w → v.Off G → v.Has w' ∧ v.Frv lb w' := by
  intro v
  induction v using Vl.ind with
  | h v ih =>
    intro h1 h2 h3
    obtain ⟨A, cap, hav, hcap, hlen, hA⟩ := h1.vls.head
    have hr := h1.vls.row
    refine ⟨.mk ?_ (fun x hx => (ih x hx (h1.vls.kids x hx) (h2.kids x hx) (h3.kids x hx)).1) h1.num, .mk ?_ (fun x hx => (ih x hx (h1.vls.kids x hx) (h2.kids x hx) (h3.kids x hx)).2)⟩
    · obtain ⟨A', cap', e, hc, hl, hz, hrr⟩ := hr
      refine ⟨A', cap', e, hc, hl, hz, fun i r hi => ?_⟩
      obtain ⟨b, o, hA', hj⟩ := hrr i r hi
      refine ⟨b, o, hA', fun j u hu => ?_⟩
      subst hA'
      obtain ⟨hb, c, hcb⟩ := h2.blk e
      have := hj j u hu
      rw [World.cell?_of_block (w := w) (w' := w')]
      · exact this
      · show w'.heap[b]? = w.heap[b]?
        rw [g b c (h3.blk e) hcb, hcb]
    · intro b o L c he
      obtain ⟨hb, c', hcb⟩ := h2.blk he
      exact ⟨hb, c', g b c' (h3.blk he) hcb⟩
/-- Where the row lies to which one has appended. -/
theorem append_where {P : Program} (w : World) (base : Nat) (t ty e : TypeId) (i : TypeInfo) (z : Value) (size bytes : Nat) (ht : P.underlying t = some (.slice e)) (hi : P.info? e = some i) (hz : i.zero = some z)
    (hsize : i.size = size) (hby : i.bytes = bytes) (hzs : z.cells.size = size) (hsz : 0 < size) (v : Value) (n : Nat) (xs : List Value) (hown : w.ownsRow base e size v n xs)
    (a : Addr) (m c : Nat) (hm : 0 < m) (news : List Value) (hl : news.length = m * size) (hnews : ∀ j u, news[j]? = some u → w.cell? (a.add j) = some u) (h1 : ∀ u ∈ news, u.oneCell' = true)
    (h63 : n + m ≤ maxLen) (hbytes : (n + m) * bytes ≤ 140737488355328) (hbase : base ≤ w.heap.size) :
    ∃ g' c' w', (Builtin.append_ #[t, t] ty #[v, .slice (some a) m c]).run P w = .ok (.slice (some ⟨g', 0, none⟩) (n + m) c') w' ∧ w'.ownsRow base e size (.slice (some ⟨g', 0, none⟩) (n + m) c') (n + m) (xs ++ news) ∧ w.grownBy w' v.ownBlock ∧ (v.ownBlock = some g' ∨ g' = w.heap.size) := by
  have hsmall : n + m ≤ 9223372036854775807 := by simp only [maxLen] at h63; omega
  obtain ⟨v', w', hr, ho, hg, -⟩ := run_append_own (P := P) w base t ty e i z size bytes ht hi hz hsize hby hzs hsz v n xs hown a m c news hl hnews h1 h63 hbytes hbase
  subst hsize
  subst hby
  have fin : ∀ (g' c' : Nat) (w'' : World), (Builtin.append_ #[t, t] ty #[v, .slice (some a) m c]).run P w = .ok (.slice (some ⟨g', 0, none⟩) (n + m) c') w'' → (v.ownBlock = some g' ∨ g' = w.heap.size) → ∃ g' c' w', (Builtin.append_ #[t, t] ty #[v, .slice (some a) m c]).run P w = .ok (.slice (some ⟨g', 0, none⟩) (n + m) c') w' ∧ w'.ownsRow base e i.size (.slice (some ⟨g', 0, none⟩) (n + m) c') (n + m) (xs ++ news) ∧ w.grownBy w' v.ownBlock ∧ (v.ownBlock = some g' ∨ g' = w.heap.size) := fun g' c' w'' h hq => by
    have h2 := hr
    rw [h] at h2
    simp only [Result.ok.injEq] at h2
    obtain ⟨rfl, rfl⟩ := h2
    exact ⟨g', c', _, h, ho, hg, hq⟩
  rcases hown.2 with ⟨rfl, rfl⟩ | ⟨g, cap, cur, rfl, hbg, hgc, hnc, hcm, hcs, htake⟩
  · have hq := run_append_nil (P := P) w t ty e i z ht hi hz a m c news hl hnews hm (by omega) (by have hb := hbytes; simp only [Nat.zero_add] at hb; omega)
    exact fin _ _ _ (by rw [Nat.zero_add]; exact hq) (.inr rfl)
  · by_cases hroom : n + m ≤ cap
    · have hfit : n * i.size + news.length ≤ cur.size := by rw [hl, hcs, ← Nat.add_mul]; exact Nat.mul_le_mul_right _ hroom
      exact fin _ _ _ (run_append_room (P := P) w t ty e i ht hi g n cap cur hgc a m c news hl hnews h1 hroom hfit) (.inl rfl)
    · have holds : ∀ j u, xs[j]? = some u → w.cell? ((⟨g, 0, none⟩ : Addr).add j) = some u := hown.cells (g := g) rfl
      exact fin _ _ _ (run_append_grow (P := P) w t ty e i z ht hi hz ⟨g, 0, none⟩ n cap xs hown.1 holds a m c news hl hnews (by omega) (by omega) (growslice_fits (by omega) hbytes)) (.inr rfl)
/-- A round of the loop over a tuple's words, the reference's. -/
structure TL (W0 : World) (rd : Nat) (sv : Value) (bs : Int) (k : Nat) (xs ps : List Int) (R : Nat × Rs) (w : World) (S V : Nat) (i : Nat) (acc : List Vl) (m : Nat) (X : List Value) (av : Value) (wr : World) : Prop where
  hat : RdAt W0 rd sv bs wr m
  hm : m ≤ 4096
  step : decL (decV xs bs k) (ps.drop i) m (acc.map Vl.sh) = R
  len : acc.length = i
  own : wr.ownsRow (V + 1) 24 3 av i X
  fst : Firsts X acc
  kid : ∀ x ∈ acc, (x.Has wr ∧ x.Frv (V + 1) wr) ∧ ∀ g, av.ownBlock = some g → x.Off g
  gb : Gb rd w wr
  bS : wr.heap[S]? = some (.cells #[.int .i64 0, .int .i64 0, .slice none 0 0] 24 (0, 0))
  bV : wr.heap[V]? = some (.cells #[.int .i64 4, .int .i64 0, av] 24 (0, 0))
theorem own_gb' {mt : Nat} {w w' : World} {base n : Nat} {v : Value} {X : List Value} (ho : w.ownsRow base 24 3 v n X) (h : Gb mt w w') (hmg : mt < base) : w'.ownsRow base 24 3 v n X :=
  ho.kept (row := some mt) ⟨h.os, h.tape, h.output, h.size, fun k hk hne => by
    obtain ⟨o, ho⟩ : ∃ o, w.heap[k]? = some o := ⟨_, Array.getElem?_eq_getElem hk⟩
    rw [h.block ho (fun e => hne (by rw [e])), ho]⟩ (by
      cases hq : v.ownBlock with
      | none => exact .inl rfl
      | some k => exact .inr (fun e => by have := (ho.lt k hq).1; simp only [Option.some.injEq] at e; omega))
theorem Firsts.push {X : List Value} {acc : List Vl} {x : Vl} (h : Firsts X acc) (hl : X.length = acc.length * 3) : Firsts (X ++ x.cells) (acc ++ [x]) := by
  intro i y hy j u hu
  have hj : j < y.cells.length := (List.getElem?_eq_some_iff.1 hu).1
  have hj3 : j < 3 := by simpa [Vl.cells] using hj
  rw [List.getElem?_append] at hy
  split at hy
  · rename_i hi
    rw [List.getElem?_append_left (by omega)]
    exact h i y hy j u hu
  · rename_i hi
    have hie : i = acc.length := by
      by_cases e : i - acc.length = 0
      · omega
      · rw [List.getElem?_eq_none (by simp; omega)] at hy; cases hy
    subst hie
    simp only [Nat.sub_self, List.getElem?_cons_zero, Option.some.injEq] at hy
    subst hy
    rw [List.getElem?_append_right (by omega), hl, Nat.add_sub_cancel_left]
    exact hu
theorem TL.next {W0 : World} {rd : Nat} {sv : Value} {bs : Int} {k : Nat} {xs ps : List Int} {R : Nat × Rs} {w : World} {S V i : Nat} {acc : List Vl} {m : Nat} {X : List Value} {av : Value} {wr : World} (h : TL W0 rd sv bs k xs ps R w S V i acc m X av wr) {m2 : Nat} (hm2 : m2 ≤ 4096) {v : Vl}
    (hstep : decL (decV xs bs k) (ps.drop (i + 1)) m2 (acc.map Vl.sh ++ [v.sh]) = R) {w8 : World} (g8 : Gb rd wr w8) (bM : w8.heap[rd]? = some (.cells #[sv, .int .u64 bs, .int .i64 (m2 : Int)] 66 (0, 0))) (h1 : v.Has w8) (h2 : v.Frv wr.heap.size w8)
    (hSV : S < V) (hwS : w.heap.size ≤ S) (hrS : rd < S) {w9 : World} {g' c' : Nat} (hown : w9.ownsRow (V + 1) 24 3 (.slice (some ⟨g', 0, none⟩) (i + 1) c') (i + 1) (X ++ v.cells)) (hg : w8.grownBy w9 av.ownBlock) (hwh : av.ownBlock = some g' ∨ g' = w8.heap.size) :
    TL W0 rd sv bs k xs ps R w S V (i + 1) (acc ++ [v]) m2 (X ++ v.cells) (.slice (some ⟨g', 0, none⟩) (i + 1) c') (w9.setCell ⟨V, 2, none⟩ (.slice (some ⟨g', 0, none⟩) (i + 1) c')) := by
  have hVr := lt_blk h.bV
  have h8 := h.hat.gb g8 bM
  have ol := h.own.lt
  have hne : ∀ b, b ≤ V → some b ≠ av.ownBlock := fun b hb e => by have := (ol b e.symm).1; omega
  have hrow : ∀ g, av.ownBlock = some g → V + 1 ≤ g := fun g hg => (ol g hg).1
  have hrd := h.hat.hm
  have n9 : Nb W0 w9 := Below.grown h8.nb hg (by have := h8.nb.size; omega) (fun k hk => by have := hrow k hk; omega)
  have bM9 := (World.grownBy.block hg rd (lt_blk bM) (hne rd (by omega))).trans bM
  have bS8 := g8.block h.bS (by omega)
  have bV8 := g8.block h.bV (by omega)
  have bS9 := (World.grownBy.block hg S (lt_blk bS8) (hne S (by omega))).trans bS8
  have bV9 := (World.grownBy.block hg V (lt_blk bV8) (hne V (by omega))).trans bV8
  have gw8 := h.gb.trans g8
  have gw9 : Gb rd w w9 := ⟨hg.os.trans gw8.os, hg.tape.trans gw8.tape, hg.output.trans gw8.output, Nat.le_trans gw8.size hg.size, fun j hj hjr => by
    have hs := gw8.size
    obtain ⟨o, ho⟩ : ∃ o, w.heap[j]? = some o := ⟨_, Array.getElem?_eq_getElem hj⟩
    rw [World.grownBy.block hg j (by omega) (hne j (by omega)), gw8.block ho (fun e => hjr (by rw [e])), ho]⟩
  have stays : ∀ x : Vl, x.Has w8 → x.Frv (V + 1) w8 → (∀ g, av.ownBlock = some g → x.Off g) → x.Has (w9.setCell ⟨V, 2, none⟩ (.slice (some ⟨g', 0, none⟩) (i + 1) c')) ∧ x.Frv (V + 1) (w9.setCell ⟨V, 2, none⟩ (.slice (some ⟨g', 0, none⟩) (i + 1) c')) := fun x p q r => by
    have : x.Has w9 ∧ x.Frv (V + 1) w9 := by
      cases hq : av.ownBlock with
      | none => exact keeps_of (fun b cs _ hb => by rw [World.grownBy.block hg b (lt_blk hb) (by rw [hq]; simp)]; exact hb) x p q
      | some g => exact keeps_off (G := g) (fun b cs hbg hb => by rw [World.grownBy.block hg b (lt_blk hb) (by rw [hq]; simpa using hbg)]; exact hb) x p q (r g hq)
    exact keeps_set ⟨V, 2, none⟩ (Nat.lt_succ_self V) _ this.1 this.2
  have hlen := h.len
  refine ⟨⟨n9.setCell (p := ⟨V, 2, none⟩) (by show W0.heap.size ≤ V; omega) _, ?_, hrd⟩, hm2, by rw [List.map_append]; exact hstep, by rw [List.length_append, hlen]; rfl, ?_, h.fst.push (by rw [h.own.1, hlen]), ?_, gw9.far (by omega) _ _, ?_, ?_⟩
  · rw [heap_setCell_other _ _ _ _ (by show rd ≠ V; omega)]; exact bM9
  · exact hown.kept (row := some V) ⟨rfl, rfl, rfl, by simp, fun k _ hk => heap_setCell_other _ _ _ _ (fun e => hk (by rw [e]))⟩ (.inr (fun e => by have := (hown.lt g' rfl).1; simp only [Value.ownBlock, Option.some.injEq] at e; omega))
  · intro x hx
    have hoff : ∀ x : Vl, x.Frv (V + 1) w8 → (∀ g, av.ownBlock = some g → x.Off g) → ∀ g, (Value.slice (some ⟨g', 0, none⟩) (i + 1) c').ownBlock = some g → x.Off g := fun x q r g hgq => by
      simp only [Value.ownBlock, Option.some.injEq] at hgq
      subst hgq
      rcases hwh with e | e
      · exact r _ e
      · exact q.off_new (by omega)
    rw [List.mem_append] at hx
    rcases hx with hx | hx
    · obtain ⟨⟨p, q⟩, r⟩ := h.kid x hx
      obtain ⟨p, q⟩ := keeps_gb h.hat.box (by decide) g8 x p q
      exact ⟨stays x p q r, hoff x q r⟩
    · obtain rfl := List.mem_singleton.1 hx
      have r : ∀ g, av.ownBlock = some g → x.Off g := fun g e => h2.off_low (ol g e).2
      have q := h2.mono (lb' := V + 1) (by omega)
      exact ⟨stays _ h1 q r, hoff _ q r⟩
  · rw [heap_setCell_other _ _ _ _ (by show S ≠ V; omega)]; exact bS9
  · exact heap_setCell_same _ _ _ _ _ _ bV9
end Go.Proofs.Ytmoggaecnjcjfaa
