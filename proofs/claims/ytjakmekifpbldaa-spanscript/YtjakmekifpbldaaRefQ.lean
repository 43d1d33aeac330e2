/-
  What is proved here: what is told of looks is told alike on both sides (told, for SpanScript).
-/
import Derived.Test.YtjakmekifpbldaaRefP
import Derived.Test.YtjakmekifpbldaaRefC
namespace Go.Proofs.Ytjakmekifpbldaa
open Go.RowKit Go.Shelf

theorem rle_few {X : List Ch} (h : X.length ≤ 4096) : (∀ p ∈ rle X, p.1 ≤ 9223372036854775807) ∧ (rle X).length ≤ 9223372036854775807 := by
  refine ⟨fun p hp => ?_, by have := rle_len_le X; omega⟩
  obtain ⟨i, hi, rfl⟩ := List.getElem_of_mem hp
  have h1 := tot_take_succ (rle X) hi
  have h2 := tot_take_le (rle X) (i + 1)
  rw [rle_length] at h2
  omega
theorem row_spans {W : World} {base : Nat} {v : Value} {X : List Ch} (h : RowAt W base 61 v (rle X)) (hX : X.length ≤ 4096) : SpansAt W v (ips (rle X)) := spans_rowAt h (rle_few hX).1 (rle_few hX).2

/-- What At tells, on both sides. -/
theorem at_both (L : List Ch) (a : Int) : ∃ (c : Ch) (e : Int), (∀ t sv m w, LooksAt t sv L m w → Calls Try.prog 19 #[.pointer (some ⟨t, 0, none⟩), .int .i64 a] w fun y w' => y = .returned (.tuple #[chV c, .int .i64 e]) ∧ Below w.heap.size w w') ∧
    (∀ t v m w, RefAt t v L m w → Calls Try.prog 39 #[.pointer (some ⟨t, 0, none⟩), .int .i64 a] w fun y w' => y = .returned (.tuple #[chV c, .int .i64 e]) ∧ Below w.heap.size w w') := by
  by_cases h : a < 0 ∨ (L.length : Int) ≤ a
  · exact ⟨_, _, fun t sv m w hl => at_range t sv L m a h w hl, fun t v m w hr => rat_range t v L m a h w hr⟩
  · obtain ⟨p, rfl⟩ := Int.eq_ofNat_of_zero_le (show 0 ≤ a by omega)
    exact ⟨_, _, fun t sv m w hl => at_ok t sv L m p (by omega) w hl, fun t v m w hr => rat_ok t v L m p (by omega) w hr⟩
/-- What Slice tells, on both sides. -/
theorem slice_both (L : List Ch) (hL : L.length ≤ 4096) (a b : Int) : ∃ (X : List Ch) (e : Int), X.length ≤ 4096 ∧ (∀ t sv m w, LooksAt t sv L m w → Calls Try.prog 20 #[.pointer (some ⟨t, 0, none⟩), .int .i64 a, .int .i64 b] w fun y w' => ∃ v, y = .returned (.tuple #[v, .int .i64 e]) ∧ RowAt w' w.heap.size 61 v (rle X) ∧ Below w.heap.size w w') ∧
    (∀ t v m w, RefAt t v L m w → Calls Try.prog 40 #[.pointer (some ⟨t, 0, none⟩), .int .i64 a, .int .i64 b] w fun y w' => ∃ v, y = .returned (.tuple #[v, .int .i64 e]) ∧ RowAt w' w.heap.size 61 v (rle X) ∧ Below w.heap.size w w') := by
  by_cases h : a < 0 ∨ b < a ∨ (L.length : Int) < b
  · refine ⟨[], 5, by simp, fun t sv m w hl => (slice_range t sv L m a b h w hl).mono ?_, fun t v m w hr => (rslice_range t v L m a b h w hr).mono ?_⟩
    · rintro e w' ⟨rfl, rfl⟩
      exact ⟨_, rfl, rowAt_of (World.ownsRow_nil _ _ _ _), Below.refl _ _⟩
    · rintro e w' ⟨rfl, rfl⟩
      exact ⟨_, rfl, rowAt_of (World.ownsRow_nil _ _ _ _), Below.refl _ _⟩
  · obtain ⟨p, rfl⟩ := Int.eq_ofNat_of_zero_le (show 0 ≤ a by omega)
    obtain ⟨q, rfl⟩ := Int.eq_ofNat_of_zero_le (show 0 ≤ b by omega)
    exact ⟨sub L p q, 0, by rw [sub_length L (by omega)]; omega, fun t sv m w hl => slice_ok t sv L m p q (by omega) (by omega) w hl, fun t v m w hr => rslice_ok t v L m p q (by omega) (by omega) w hr⟩
theorem RefAt.seen {t : Nat} {v : Value} {L : List Ch} {m : Ch} {W : World} (h : RefAt t v L m W) : Seen W v L := by
  by_cases hn : L.length = 0
  · obtain ⟨a, cap, rfl⟩ := h.row.form
    exact ⟨a, cap, rfl, .inl (List.eq_nil_of_length_eq_zero hn)⟩
  · obtain ⟨g, cap, rfl, hg, _⟩ := h.row.cells (i := 0) (by omega)
    refine ⟨some ⟨g, 0, none⟩, cap, rfl, .inr ⟨g, 0, rfl, hg, fun i hi => ?_⟩⟩
    obtain ⟨g', cp', hv, _, r⟩ := h.row.cells (i := i) hi
    cases hv
    rw [Nat.zero_add]
    exact r

theorem spoil_set {W : World} {g : Nat} {cur : Array Value} (h : W.heap[g]? = some (.cells cur 61 (0, 0))) (j : Nat) (u : Value) : ∃ cur', (W.setCell ⟨g, j, none⟩ u).heap[g]? = some (.cells cur' 61 (0, 0)) ∧ cur'.size = cur.size :=
  ⟨_, heap_setCell_same W g j cur 61 u h, by simp⟩
/-- The list that is written over. -/
def Spoil (W : World) (base : Nat) (v : Value) (n : Nat) : Prop := ∃ a cap, v = .slice a n cap ∧ (n = 0 ∨ ∃ g cur, a = some ⟨g, 0, none⟩ ∧ base ≤ g ∧ W.heap[g]? = some (.cells cur 61 (0, 0)) ∧ n * 4 ≤ cur.size)
theorem Spoil.of {W : World} {base : Nat} {v : Value} {ps : List Sp} (h : RowAt W base 61 v ps) : Spoil W base v ps.length := by
  rcases h.out.2 with ⟨rfl, hn⟩ | ⟨g, cap, cur, rfl, hb, hg, h1, h2, h3, _⟩
  · exact ⟨none, 0, by rw [hn], .inl hn⟩
  · exact ⟨_, cap, rfl, .inr ⟨g, cur, rfl, hb, hg, by rw [h3]; exact Nat.mul_le_mul_right 4 h1⟩⟩

set_option maxRecDepth 100000 in
set_option maxHeartbeats 2000000 in
theorem told_any (t t2 : Nat) (sv v : Value) (L : List Ch) (m : Ch) (a b : Int) (w : World) (h : LooksAt t sv L m w) (hr : RefAt t2 v L m w) :
    Calls Try.prog 15 #[.pointer (some ⟨t, 0, none⟩), .pointer (some ⟨t2, 0, none⟩), .int .i64 a, .int .i64 b] w fun e w' => e = .returned (.bool true) ∧ Below w.heap.size w w' := by
  have hfew := h.few
  obtain ⟨c, ec, hA, hA2⟩ := at_both L a
  obtain ⟨X, gc, hX, hS, hS2⟩ := slice_both L hfew a b
  have hAll := fun w hw => slice_ok t sv L m 0 L.length (Nat.zero_le _) (Nat.le_refl _) w hw
  rw [sub_all] at hAll
  obtain ⟨ar, cr, hvr⟩ := hr.row.form
  subst hvr
  unfold chV at hA hA2
  have hA' : Hid _ := hA
  have hA2' : Hid _ := hA2
  have hS' : Hid _ := hS
  have hS2' : Hid _ := hS2
  have hAll' : Hid _ := hAll
  have hL : Hid (LooksAt t sv L m w) := h
  have hR : Hid (RefAt t2 (.slice ar L.length cr) L m w) := hr
  clear hA hA2 hS hS2 hAll h hr
  go_enter Try.func15, Try.ntmps15
  go_wp2_with fail
  refine (hA'.out t sv m w hL.out).mono ?_
  rintro e w1 ⟨rfl, B1⟩
  have E1 := B1.alloc B1.size (.cells #[.int .i64 c.s, .int .i64 c.t, .int .i64 c.k] 23)
  have X1 : Hid ((w1.alloc (.cells #[.int .i64 c.s, .int .i64 c.t, .int .i64 c.k] 23)).heap[w1.heap.size]? = some (.cells #[.int .i64 c.s, .int .i64 c.t, .int .i64 c.k] 23 (0, 0))) := heap_new w1 _
  go_wp2_with fail
  refine (hA2'.out t2 _ m _ (hR.out.below E1)).mono ?_
  rintro e w2 ⟨rfl, B2⟩
  have D2 := E1.trans (B2.mono E1.size)
  have X2 : Hid (w2.heap[w1.heap.size]? = some (.cells #[.int .i64 c.s, .int .i64 c.t, .int .i64 c.k] 23 (0, 0))) := (B2.block _ (Array.getElem?_eq_some_iff.1 X1.out).1).trans X1.out
  have E2 := D2.alloc D2.size (.cells #[.int .i64 c.s, .int .i64 c.t, .int .i64 c.k] 23)
  have X3 : Hid ((w2.alloc (.cells #[.int .i64 c.s, .int .i64 c.t, .int .i64 c.k] 23)).heap[w1.heap.size]? = some (.cells #[.int .i64 c.s, .int .i64 c.t, .int .i64 c.k] 23 (0, 0))) := (Below.heap_alloc _ _ _ (Array.getElem?_eq_some_iff.1 X2.out).1).trans X2.out
  have Y3 : Hid ((w2.alloc (.cells #[.int .i64 c.s, .int .i64 c.t, .int .i64 c.k] 23)).heap[w2.heap.size]? = some (.cells #[.int .i64 c.s, .int .i64 c.t, .int .i64 c.k] 23 (0, 0))) := heap_new w2 _
  clear hA' hA2' B1 B2 E1 D2 X1 X2
  go_wp2_with fail
  refine (hS'.out t sv m _ (hL.out.below E2)).mono ?_
  rintro e w3 ⟨va, rfl, ra, B3⟩
  have D3 := E2.trans (B3.mono E2.size)
  have X4 : Hid (w3.heap[w1.heap.size]? = some (.cells #[.int .i64 c.s, .int .i64 c.t, .int .i64 c.k] 23 (0, 0))) := (B3.block _ (Array.getElem?_eq_some_iff.1 X3.out).1).trans X3.out
  have Y4 : Hid (w3.heap[w2.heap.size]? = some (.cells #[.int .i64 c.s, .int .i64 c.t, .int .i64 c.k] 23 (0, 0))) := (B3.block _ (Array.getElem?_eq_some_iff.1 Y3.out).1).trans Y3.out
  go_wp2_with fail
  refine (hS2'.out t2 _ m _ (hR.out.below D3)).mono ?_
  rintro e w4 ⟨vb, rfl, rb, B4⟩
  have D4 := D3.trans (B4.mono D3.size)
  have X5 : Hid (w4.heap[w1.heap.size]? = some (.cells #[.int .i64 c.s, .int .i64 c.t, .int .i64 c.k] 23 (0, 0))) := (B4.block _ (Array.getElem?_eq_some_iff.1 X4.out).1).trans X4.out
  have Y5 : Hid (w4.heap[w2.heap.size]? = some (.cells #[.int .i64 c.s, .int .i64 c.t, .int .i64 c.k] 23 (0, 0))) := (B4.block _ (Array.getElem?_eq_some_iff.1 Y4.out).1).trans Y4.out
  have ra4 := ra.below B4
  have hR4 := hR.out.below D4
  obtain ⟨c0, _, _, _⟩ := hR4.cells
  clear X3 Y3 X4 Y4 B3 ra hS' hS2'
  go_wp2_with fail
  refine (hAll'.out _ (hL.out.below D4)).mono ?_
  rintro e w5 ⟨vl, rfl, rl, B5⟩
  have D5 := D4.trans (B5.mono D4.size)
  have X6 : Hid (w5.heap[w1.heap.size]? = some (.cells #[.int .i64 c.s, .int .i64 c.t, .int .i64 c.k] 23 (0, 0))) := (B5.block _ (Array.getElem?_eq_some_iff.1 X5.out).1).trans X5.out
  have Y6 : Hid (w5.heap[w2.heap.size]? = some (.cells #[.int .i64 c.s, .int .i64 c.t, .int .i64 c.k] 23 (0, 0))) := (B5.block _ (Array.getElem?_eq_some_iff.1 Y5.out).1).trans Y5.out
  have ra5 := row_spans (ra4.below B5) hX
  have rb5 := row_spans (rb.below B5) hX
  have rl5 := row_spans rl hfew
  have hR5 := hR.out.below D5
  have hL5 := hL.out.below D5
  have c5 := hR5.cells.1
  have hsp := Spoil.of rl
  clear c0 ra4 rb rl hR4 B4 X5 Y5 hAll'
  go_wp2_with fail
  refine told_region _ (fun _ _ _ _ _ h => h) _ _ t t2 w1.heap.size w2.heap.size L.length cr ar va vb vl ec gc c w5 hR5.lt c5 X6.out Y6.out (fun W u => RowAt W 0 61 u (rle L)) ?_ ?_ ?_ ?_ ?_
  · intro W hW
    have := spans_any va vb _ _ W (ra5.below hW) (rb5.below hW)
    simpa using this
  · intro W hW
    refine (runs_any _ L hfew W (hR5.below hW).seen).mono ?_
    rintro e W' ⟨u, rfl, hu, hb⟩
    exact ⟨u, rfl, hu.base (Nat.zero_le _), hb⟩
  · intro u W hW hu
    have := spans_any vl u _ _ W (rl5.below hW) (row_spans hu hfew)
    simpa using this
  · intro W hW
    refine (len_looks t sv L m W (hL5.below hW)).mono ?_
    rintro e W' ⟨rfl, rfl⟩
    exact ⟨rfl, Below.refl _ _⟩
  · intro u w6 B6
    have D6 := D5.trans (B6.mono D5.size)
    have hlen := rle_len_le L
    obtain ⟨al, cl, rfl, hsl⟩ := hsp
    have hsl' : Hid ((rle L).length = 0 ∨ ∃ g, al = some ⟨g, 0, none⟩ ∧ w.heap.size ≤ g ∧ ∃ cur, w6.heap[g]? = some (.cells cur 61 (0, 0)) ∧ (rle L).length * 4 ≤ cur.size) := by
      rcases hsl with h0 | ⟨g, cur, rfl, hg, hG, hz⟩
      · exact .inl h0
      · exact .inr ⟨g, rfl, Nat.le_trans D4.size hg, cur, (B6.block g (Array.getElem?_eq_some_iff.1 hG).1).trans hG, hz⟩
    clear hsl ra5 rb5 rl5 hR5 hL5 c5 X6 Y6 hL hR
    generalize (rle L).length = N at *
    unfold fr15
    go_wp2_with fail
    go_loopw [20] (fun i wr => ∃ k : Nat, k ≤ N ∧ i = .int .i64 k ∧ Below w.heap.size w wr ∧ Hid (N = 0 ∨ ∃ g, al = some ⟨g, 0, none⟩ ∧ w.heap.size ≤ g ∧ ∃ cur, wr.heap[g]? = some (.cells cur 61 (0, 0)) ∧ N * 4 ≤ cur.size)) (fun i _ => N - (intOf i).toNat)
    case atStart => exact ⟨0, Nat.zero_le _, rfl, D6, hsl'⟩
    case round =>
      obtain ⟨k, hk, rfl, hb, hsl⟩ := hrel
      by_cases hlt : k < N
      · rcases hsl.out with h0 | ⟨g, rfl, hg, cur, hG, hz⟩
        · omega
        · have flt : (k : Int) < N := by omega
          have k0 : wr.cell? ⟨g, k * 4, none⟩ = some (cur[k * 4]'(by omega)) := by rw [Lib.cell_of_heap hG]; exact Array.getElem?_eq_getElem (by omega)
          have k1 : wr.cell? ⟨g, k * 4 + 1, none⟩ = some (cur[k * 4 + 1]'(by omega)) := by rw [Lib.cell_of_heap hG]; exact Array.getElem?_eq_getElem (by omega)
          have k2 : wr.cell? ⟨g, k * 4 + 2, none⟩ = some (cur[k * 4 + 2]'(by omega)) := by rw [Lib.cell_of_heap hG]; exact Array.getElem?_eq_getElem (by omega)
          have k3 : wr.cell? ⟨g, k * 4 + 3, none⟩ = some (cur[k * 4 + 3]'(by omega)) := by rw [Lib.cell_of_heap hG]; exact Array.getElem?_eq_getElem (by omega)
          have z : ∀ j, wr.frozen? ⟨g, j, none⟩ = false := fun j => Lib.frozen_of_heap hG j
          generalize cur[k * 4]'(by omega) = o0 at k0
          generalize cur[k * 4 + 1]'(by omega) = o1 at k1
          generalize cur[k * 4 + 2]'(by omega) = o2 at k2
          generalize cur[k * 4 + 3]'(by omega) = o3 at k3
          have z0 := z (k * 4)
          have z1 := z (k * 4 + 1)
          have z2 := z (k * 4 + 2)
          have z3 := z (k * 4 + 3)
          obtain ⟨c1, hG1, e1⟩ := spoil_set hG (k * 4) (.int .i64 (-1))
          obtain ⟨c2, hG2, e2⟩ := spoil_set hG1 (k * 4 + 1) (.int .i64 0)
          obtain ⟨c3, hG3, e3⟩ := spoil_set hG2 (k * 4 + 2) (.int .i64 0)
          obtain ⟨c4, hG4, e4⟩ := spoil_set hG3 (k * 4 + 3) (.int .i64 0)
          have hb4 := (((hb.setCell (p := ⟨g, k * 4, none⟩) hg (.int .i64 (-1))).setCell (p := ⟨g, k * 4 + 1, none⟩) hg (.int .i64 0)).setCell (p := ⟨g, k * 4 + 2, none⟩) hg (.int .i64 0)).setCell (p := ⟨g, k * 4 + 3, none⟩) hg (.int .i64 0)
          have hfin : Hid _ := (⟨g, rfl, hg, c4, hG4, by omega⟩ : ∃ g', some (⟨g, 0, none⟩ : Addr) = some ⟨g', 0, none⟩ ∧ w.heap.size ≤ g' ∧ ∃ cur, ((((wr.setCell ⟨g, k * 4, none⟩ (.int .i64 (-1))).setCell ⟨g, k * 4 + 1, none⟩ (.int .i64 0)).setCell ⟨g, k * 4 + 2, none⟩ (.int .i64 0)).setCell ⟨g, k * 4 + 3, none⟩ (.int .i64 0)).heap[g']? = some (.cells cur 61 (0, 0)) ∧ N * 4 ≤ cur.size)
          clear z hsl hsl' hG hG1 hG2 hG3 hG4 e1 e2 e3 e4
          go_wp2_with fail
          go_roundw
          case rel => exact ⟨k + 1, by omega, by simp, hb4, .inr hfin.out⟩
          case measure => simp [intOf]; omega
      · have flt : ¬ (k : Int) < N := by omega
        clear hsl hsl'
        go_wp2_with fail
        go_ret
        exact ⟨rfl, hb⟩
end Go.Proofs.Ytjakmekifpbldaa
