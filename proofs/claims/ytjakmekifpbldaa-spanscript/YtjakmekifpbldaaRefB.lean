/-
  What is proved here: the runs of bytes, by the document (for SpanScript).
-/
import Derived.Test.YtjakmekifpbldaaRefA
namespace Go.Proofs.Ytjakmekifpbldaa
open Go.RowKit Go.Shelf

/-- Bytes that can be read. -/
def Seen (W : World) (v : Value) (L : List Ch) : Prop := ∃ a cap, v = .slice a L.length cap ∧ (L = [] ∨ ∃ g o, a = some ⟨g, o, none⟩ ∧ g < W.heap.size ∧ ∀ (i : Nat) (hi : i < L.length), W.cell? ⟨g, o + i * 3, none⟩ = some (.int .i64 L[i].s) ∧ W.cell? ⟨g, o + i * 3 + 1, none⟩ = some (.int .i64 L[i].t) ∧ W.cell? ⟨g, o + i * 3 + 2, none⟩ = some (.int .i64 L[i].k))

theorem rle_last_of (X : List Ch) (c : Ch) (h : X.getLast? = some c) : ∃ a m, rle X = a ++ [(m, c)] := by
  rcases List.eq_nil_or_concat (rle X) with h0 | ⟨a, q, hq⟩
  · have : X = [] := rle_nil X (by rw [h0]; rfl)
    subst this; simp at h
  · have hq' : rle X = a ++ [q] := by simpa using hq
    have := rle_last X q (by rw [hq']; simp)
    rw [h] at this
    injection this with this
    exact ⟨a, q.1, by rw [hq', this]⟩
theorem take_last (L : List Ch) {k : Nat} (h : k < L.length) : (L.take (k + 1)).getLast? = some L[k] := by
  rw [List.take_succ_eq_append_getElem h, List.getLast?_concat]
theorem runs_new (L : List Ch) {k : Nat} (h : k < L.length) (hne : ∀ q, (rle (L.take k)).getLast? = some q → q.2 ≠ L[k]) : rle (L.take (k + 1)) = rle (L.take k) ++ [(1, L[k])] := by
  have := rle_new (L.take k) 1 L[k] (by omega) hne
  rw [List.take_succ_eq_append_getElem h]
  simpa using this
theorem runs_more (L : List Ch) {k m : Nat} (h : k < L.length) (a : List Sp) (hr : rle (L.take k) = a ++ [(m, L[k])]) : rle (L.take (k + 1)) = a ++ [(m + 1, L[k])] := by
  have := rle_more (L.take k) 1 m L[k] a hr
  rw [List.take_succ_eq_append_getElem h]
  simpa using this

theorem srcs_new1 (w : World) (x0 x1 x2 x3 : Int) (e : TypeId) : Srcs (w.alloc (.cells #[.int .i64 x0, .int .i64 x1, .int .i64 x2, .int .i64 x3] e)) 4 (.slice (some ⟨w.heap.size, 0, none⟩) 1 1) 1 [.int .i64 x0, .int .i64 x1, .int .i64 x2, .int .i64 x3] := by
  refine ownsRow_srcs (ownsRow_one #[.int .i64 x0, .int .i64 x1, .int .i64 x2, .int .i64 x3] 0 (Nat.zero_le _) rfl) ?_
  intro u hu; simp at hu; rcases hu with rfl | rfl | rfl | rfl <;> rfl

set_option maxRecDepth 100000 in
set_option maxHeartbeats 1000000 in
theorem runs_any (v : Value) (L : List Ch) (hfew : L.length ≤ 4096) (w : World) (h : Seen w v L) :
    Calls Try.prog 41 #[v] w fun e w' => ∃ u, e = .returned u ∧ RowAt w' w.heap.size 61 u (rle L) ∧ Below w.heap.size w w' := by
  obtain ⟨i0, hi, hz0, hz1, hz2⟩ := info_parts info61
  obtain ⟨a0, cap0, rfl, hc⟩ := h
  have hc' : Hid _ := hc
  clear hc
  have hrl : ∀ k, (rle (L.take k)).length ≤ 4096 := fun k => Nat.le_trans (rle_len_le _) (by rw [List.length_take]; omega)
  have hrl' : Hid _ := hrl
  clear hrl
  go_enter Try.func41, Try.ntmps41
  go_wp2_with fail
  go_loopw [3, 4] (fun u i wr => ∃ k : Nat, k ≤ L.length ∧ i = .int .i64 k ∧ Below w.heap.size w wr ∧ RowAt wr w.heap.size 61 u (rle (L.take k))) (fun _ i _ => L.length - (intOf i).toNat)
  case atStart => exact ⟨0, by omega, rfl, Below.refl _ _, World.ownsRow_nil _ _ _ _⟩
  case round =>
    obtain ⟨k, hk, rfl, hb, hrow⟩ := hrel
    by_cases hlt : k < L.length
    · rcases hc'.out with h0 | ⟨g, o, rfl, hg, hcs⟩
      · rw [h0] at hlt; simp at hlt
      have hgw : g < wr.heap.size := Nat.lt_of_lt_of_le hg hb.size
      obtain ⟨c0, c1, c2⟩ := hcs k hlt
      have c0 : wr.cell? ⟨g, o + k * 3, none⟩ = _ := (hb.cell hg).trans c0
      have c1 : wr.cell? ⟨g, o + k * 3 + 1, none⟩ = _ := (hb.cell hg).trans c1
      have c2 : wr.cell? ⟨g, o + k * 3 + 2, none⟩ = _ := (hb.cell hg).trans c2
      have hcell' : Hid (∀ c : Ch, [Value.int .i64 1, .int .i64 c.s, .int .i64 c.t, .int .i64 c.k] = rowOf [(1, c)]) := fun c => by simp [rowOf, spCells, chCells]
      have hbk := hrl'.out k
      by_cases h0 : k = 0
      · have hnew : rle (L.take (k + 1)) = rle (L.take k) ++ [(1, L[k])] := runs_new L hlt (by subst h0; simp [rle])
        have hnew' : Hid _ := hnew
        have hcs' : Hid _ := hcs
        have h0' : Hid _ := h0
        clear hnew hcs h0
        generalize hX : rle (L.take k) = X at *
        generalize L[k] = c at *
        obtain ⟨a1, cp1, rfl⟩ := slice_form hrow.out
        have hrow' : Hid (RowAt wr w.heap.size 61 (.slice a1 X.length cp1) X) := hrow
        clear hrow
        go_wp2_with fail
        have d0 : decide (0 < k) = false := decide_eq_false (by have := h0'.out; omega)
        have d1 : decide (0 < (k : Int)) = false := decide_eq_false (by have := h0'.out; omega)
        go_quiet (fail)
        go_wp2_with (at_builtin; refine wpList_append_any _ rfl _ _ 40 rfl w.heap.size 61 i0 _ 4 32 Try.underlying40 hi hz0 hz1 hz2 rfl (by decide) _ _ _ rfl (by exact hrow'.out.out.alloc _) 1 _ _ rfl (by exact srcs_new1 wr _ _ _ _ 61) (by unfold maxLen; omega) (by omega) (by have := hb.size; simp; omega) ?_; intro v' w2 hown hgrow)
        have hB2 : Below w.heap.size w w2 := below_grown (w1 := wr.alloc _) (hb.alloc hb.size _) (hrow'.out.out.alloc _) (Nat.le_refl _) (Nat.le_refl _) ⟨hgrow.1, hgrow.2, hgrow.3, hgrow.4, hgrow.5⟩
        have hown' : RowAt w2 w.heap.size 61 v' (rle (L.take (k + 1))) := by
          show w2.ownsRow _ _ _ _ _ _
          rw [hnew'.out, List.length_append, rowOf_append]
          rw [hcell'.out] at hown
          exact hown
        clear hown
        go_wp2_with fail
        go_roundw
        case rel => exact ⟨k + 1, by omega, by simp, hB2, hown'⟩
        case measure => simp [intOf]; omega
      · obtain ⟨j, hj⟩ : ∃ j, k = j + 1 := ⟨k - 1, by omega⟩
        have hjl : j < L.length := by omega
        obtain ⟨b0, b1, b2⟩ := hcs j hjl
        have b0 : wr.cell? ⟨g, o + j * 3, none⟩ = _ := (hb.cell hg).trans b0
        have b1 : wr.cell? ⟨g, o + j * 3 + 1, none⟩ = _ := (hb.cell hg).trans b1
        have b2 : wr.cell? ⟨g, o + j * 3 + 2, none⟩ = _ := (hb.cell hg).trans b2
        obtain ⟨a, m, hr⟩ := rle_last_of (L.take k) L[j] (by subst hj; exact take_last L hjl)
        have hji : (k : Int) - 1 = (j : Int) := by omega
        have hk0 : 0 < (k : Int) := by omega
        have hcs' : Hid _ := hcs
        have hj' : Hid _ := hj
        clear hcs hj
        by_cases hqc : L[j] = L[k]
        · have hmo : rle (L.take (k + 1)) = a ++ [(m + 1, L[k])] := runs_more L hlt a (by rw [hr, hqc])
          rw [hqc] at b0 b1 b2 hr
          have hmo' : Hid _ := hmo
          have hal : a.length + 1 ≤ 4096 := by have : (rle (L.take k)).length = a.length + 1 := by rw [hr]; simp
                                               omega
          have hm : m ≤ 4096 := by
            have h1 := rle_length (L.take k)
            rw [hr, tot_append, List.length_take] at h1
            simp [tot] at h1; omega
          rw [hr] at hrow
          have hl1 : (a ++ [(m, L[k])]).length = a.length + 1 := by simp
          clear hmo hqc hr
          generalize L[k] = c at *
          obtain ⟨g2, rcap, hv, s0⟩ : ∃ g2 rcap, _ = Value.slice (some ⟨g2, 0, none⟩) (a ++ [(m, c)]).length rcap ∧ wr.cell? ⟨g2, a.length * 4, none⟩ = some (.int .i64 m) := by
            obtain ⟨g2, rcap, hv, s0, _⟩ := span_cells hrow (Below.refl _ _) (k := a.length) (by omega)
            exact ⟨g2, rcap, hv, by rw [s0]; simp⟩
          rw [hl1] at hv
          subst hv
          have hgb := (hrow.out.lt g2 rfl).1
          have hro := hrow.out
          rw [hl1] at hro
          have hfz : wr.frozen? ⟨g2, a.length * 4, none⟩ = false := hro.frozenAt _
          have hrow' : Hid _ := hro
          have h3 : Hid _ := row_last a (m, c) (m + 1, c) (.int .i64 ((m : Int) + 1)) (by simp) rfl
          clear hrow hro hl1 h0
          go_wp2_with fail
          have d0 : decide (0 < k) = true := decide_eq_true (by have := hj'.out; omega)
          have d1 : decide (0 < (k : Int)) = true := decide_eq_true (by have := hj'.out; omega)
          go_quiet (fail)
          go_wp2_with fail
          refine ⟨⟨k + 1, by omega, by simp, below_set (below_drewN hb _) _ _ _ hgb, ?_⟩, by simp [intOf]; omega⟩
          show World.ownsRow _ _ _ _ _ _ _
          have h2 := fun q => (World.ownsRow.stored (w := wr.drewN q) (by exact hrow'.out) (a.length * 4) (.int .i64 ((m : Int) + 1))).1
          simp only [h3.out] at h2
          rw [hmo'.out]
          have hl3 : (a ++ [(m + 1, c)]).length = a.length + 1 := by simp
          rw [hl3]
          exact h2 _
        · have hnew : rle (L.take (k + 1)) = rle (L.take k) ++ [(1, L[k])] := runs_new L hlt (by rw [hr]; intro q' hq'; simp at hq'; subst hq'; exact hqc)
          have hnew' : Hid _ := hnew
          have hne : ∀ W, (binOp .eql 23 (.agg #[.int .i64 L[k].s, .int .i64 L[k].t, .int .i64 L[k].k]) (.agg #[.int .i64 L[j].s, .int .i64 L[j].t, .int .i64 L[j].k])).run Try.prog W = .ok (.bool false) W := fun W => by have := eqlCh W L[k] L[j]; rwa [decide_eq_false (fun e => hqc e.symm)] at this
          clear hnew hr hqc h0
          generalize hX : rle (L.take k) = X at *
          generalize L[k] = c at *
          generalize L[j] = d at *
          obtain ⟨a1, cp1, rfl⟩ := slice_form hrow.out
          have hrow' : Hid (RowAt wr w.heap.size 61 (.slice a1 X.length cp1) X) := hrow
          clear hrow
          go_wp2_with fail
          have d0 : decide (0 < k) = true := decide_eq_true (by have := hj'.out; omega)
          have d1 : decide (0 < (k : Int)) = true := decide_eq_true (by have := hj'.out; omega)
          go_quiet (fail)
          go_wp2_with (at_builtin; refine wpList_append_any _ rfl _ _ 40 rfl w.heap.size 61 i0 _ 4 32 Try.underlying40 hi hz0 hz1 hz2 rfl (by decide) _ _ _ rfl (by exact hrow'.out.out.alloc _) 1 _ _ rfl (by exact srcs_new1 wr _ _ _ _ 61) (by unfold maxLen; omega) (by omega) (by have := hb.size; simp; omega) ?_; intro v' w2 hown hgrow)
          have hB2 : Below w.heap.size w w2 := below_grown (w1 := wr.alloc _) (hb.alloc hb.size _) (hrow'.out.out.alloc _) (Nat.le_refl _) (Nat.le_refl _) ⟨hgrow.1, hgrow.2, hgrow.3, hgrow.4, hgrow.5⟩
          have hown' : RowAt w2 w.heap.size 61 v' (rle (L.take (k + 1))) := by
            show w2.ownsRow _ _ _ _ _ _
            rw [hnew'.out, List.length_append, rowOf_append]
            rw [hcell'.out] at hown
            exact hown
          clear hown
          go_wp2_with fail
          go_roundw
          case rel => exact ⟨k + 1, by omega, by simp, hB2, hown'⟩
          case measure => simp [intOf]; omega
    · obtain rfl : k = L.length := by omega
      rw [List.take_of_length_le (by omega)] at hrow
      have hrow' : Hid _ := hrow
      clear hrow
      go_wp2_with fail
      go_ret
      exact ⟨_, rfl, hrow'.out, hb⟩
end Go.Proofs.Ytjakmekifpbldaa
