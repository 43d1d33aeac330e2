/-
  What is proved here: what holds, Delete and Slice answer of looks, and what Insert refuses.
-/
import Derived.Test.YtjakmekifpbldaaWalkJ
namespace Go.Proofs.Ytjakmekifpbldaa
open Go.RowKit Go.Shelf

set_option maxHeartbeats 1000000 in
theorem holds_any (t : Nat) (sv : Value) (L : List Ch) (m : Ch) (a n : Int) (ha : a ≤ 9223372036854775807) (w : World) (h : LooksAt t sv L m w) :
    Calls Try.prog 45 #[.pointer (some ⟨t, 0, none⟩), .int .i64 a, .int .i64 n] w fun e w' => e = .returned (.bool (decide (0 ≤ a) && decide (0 ≤ n) && decide (n ≤ L.length - a))) ∧ w' = w := by
  have hfew := h.few
  have hlen := len_looks t sv L m w h
  clear h
  by_cases h0 : 0 ≤ a
  · by_cases h1 : 0 ≤ n
    · go_enter Try.func45, Try.ntmps45
      go_wp2_with (go_at_call 24; refine hlen.mono ?_; rintro e w' ⟨rfl, hww⟩; subst w')
      go_ret
      refine ⟨?_, rfl⟩
      simp [h0, h1]
    · go_enter Try.func45, Try.ntmps45
      go_wp2_with (go_at_call 24; refine hlen.mono ?_; rintro e w' ⟨rfl, hww⟩; subst w')
      go_ret
      refine ⟨?_, rfl⟩
      simp; omega
  · go_enter Try.func45, Try.ntmps45
    go_wp2_with (go_at_call 24; refine hlen.mono ?_; rintro e w' ⟨rfl, hww⟩; subst w')
    go_ret
    refine ⟨?_, rfl⟩
    simp; omega

set_option maxHeartbeats 1000000 in
theorem insert_range (t : Nat) (sv : Value) (L : List Ch) (m : Ch) (a n : Int) (hx : n < 0 ∨ a < 0 ∨ (L.length : Int) < a) (w : World) (h : LooksAt t sv L m w) :
    Calls Try.prog 21 #[.pointer (some ⟨t, 0, none⟩), .int .i64 a, .int .i64 n] w fun e w' => e = .returned (.int .i64 5) ∧ w' = w := by
  have hmade := made_yes t w h.cells.1
  have hlen := len_looks t sv L m w h
  clear h
  by_cases h1 : n < 0
  · go_enter Try.func21, Try.ntmps21
    go_wp2_with (first
      | (go_at_call 34; refine hmade.mono ?_; rintro e w' ⟨rfl, hww⟩; subst w')
      | (go_at_call 24; refine hlen.mono ?_; rintro e w' ⟨rfl, hww⟩; subst w'))
    go_ret
    exact ⟨rfl, rfl⟩
  · by_cases h2 : a < 0
    · go_enter Try.func21, Try.ntmps21
      go_wp2_with (first
        | (go_at_call 34; refine hmade.mono ?_; rintro e w' ⟨rfl, hww⟩; subst w')
        | (go_at_call 24; refine hlen.mono ?_; rintro e w' ⟨rfl, hww⟩; subst w'))
      go_ret
      exact ⟨rfl, rfl⟩
    · have h3 : (L.length : Int) < a := by omega
      go_enter Try.func21, Try.ntmps21
      go_wp2_with (first
        | (go_at_call 34; refine hmade.mono ?_; rintro e w' ⟨rfl, hww⟩; subst w')
        | (go_at_call 24; refine hlen.mono ?_; rintro e w' ⟨rfl, hww⟩; subst w'))
      go_ret
      exact ⟨rfl, rfl⟩

set_option maxHeartbeats 1000000 in
theorem insert_full (t : Nat) (sv : Value) (L : List Ch) (m : Ch) (p : Nat) (n : Int) (hp : p ≤ L.length) (h1 : 0 ≤ n) (h2 : 4096 < L.length + n) (w : World) (h : LooksAt t sv L m w) :
    Calls Try.prog 21 #[.pointer (some ⟨t, 0, none⟩), .int .i64 p, .int .i64 n] w fun e w' => e = .returned (.int .i64 8) ∧ w' = w := by
  have hfew := h.few
  have hmade := made_yes t w h.cells.1
  have hlen := len_looks t sv L m w h
  clear h
  go_enter Try.func21, Try.ntmps21
  go_wp2_with (first
    | (go_at_call 34; refine hmade.mono ?_; rintro e w' ⟨rfl, hww⟩; subst w')
    | (go_at_call 24; refine hlen.mono ?_; rintro e w' ⟨rfl, hww⟩; subst w'))
  go_ret
  exact ⟨rfl, rfl⟩

set_option maxHeartbeats 1000000 in
theorem delete_range (t : Nat) (sv : Value) (L : List Ch) (m : Ch) (a n : Int) (ha : a ≤ 9223372036854775807) (hx : ¬ (0 ≤ a ∧ 0 ≤ n ∧ a + n ≤ L.length)) (w : World) (h : LooksAt t sv L m w) :
    Calls Try.prog 22 #[.pointer (some ⟨t, 0, none⟩), .int .i64 a, .int .i64 n] w fun e w' => e = .returned (.int .i64 5) ∧ w' = w := by
  have hmade := made_yes t w h.cells.1
  have hho := holds_any t sv L m a n ha w h
  have : (decide (0 ≤ a) && decide (0 ≤ n) && decide (n ≤ L.length - a)) = false := by simp; omega
  rw [this] at hho
  clear h this
  go_enter Try.func22, Try.ntmps22
  go_wp2_with (first
    | (go_at_call 34; refine hmade.mono ?_; rintro e w' ⟨rfl, hww⟩; subst w')
    | (go_at_call 45; refine hho.mono ?_; rintro e w' ⟨rfl, hww⟩; subst w'))
  go_ret
  exact ⟨rfl, rfl⟩

/-- What Delete leaves, and what it keeps in mind. -/
def delL (L : List Ch) (p n : Nat) : List Ch := sub L 0 p ++ sub L (p + n) L.length
def delM (L : List Ch) (m : Ch) (n : Nat) : Ch := if n = L.length then aheadC L m L.length else m
theorem delL_length (L : List Ch) {p n : Nat} (h : p + n ≤ L.length) : (delL L p n).length = L.length - n := by rw [delL, List.length_append, sub_length L (by omega), sub_length L (Nat.le_refl _)]; omega
theorem delL_spans (L : List Ch) (p n : Nat) : expand [rle (sub L 0 p), rle (sub L (p + n) L.length)].flatten = delL L p n := by
  simp [expand_append, rle_expand, delL]
theorem full2 (a b : List Sp) (h1 : full a) (h2 : full b) : full [a, b].flatten := by
  simp only [List.flatten_cons, List.flatten_nil, List.append_nil]
  exact full_append _ _ h1 h2

theorem LooksAt.mind {t : Nat} {sv : Value} {L : List Ch} {m c : Ch} {w w1 : World} (h : LooksAt t sv L m w) (hb : Below w.heap.size w w1) :
    LooksAt t sv L c (((w1.setCell ⟨t, 2, none⟩ (.int .i64 c.s)).setCell ⟨t, 3, none⟩ (.int .i64 c.t)).setCell ⟨t, 4, none⟩ (.int .i64 c.k)) ∧ Only t w (((w1.setCell ⟨t, 2, none⟩ (.int .i64 c.s)).setCell ⟨t, 3, none⟩ (.int .i64 c.t)).setCell ⟨t, 4, none⟩ (.int .i64 c.k)) := by
  have ho := (h.below hb).obj
  have h1 := heap_setCell_same w1 t 2 _ 46 (.int .i64 c.s) ho
  have h2 := heap_setCell_same _ t 3 _ 46 (.int .i64 c.t) h1
  have h3 := heap_setCell_same _ t 4 _ 46 (.int .i64 c.k) h2
  have hk : ∀ k, k ≠ t → (((w1.setCell ⟨t, 2, none⟩ (.int .i64 c.s)).setCell ⟨t, 3, none⟩ (.int .i64 c.t)).setCell ⟨t, 4, none⟩ (.int .i64 c.k)).heap[k]? = w1.heap[k]? := fun k hk =>
    (Below.heap_setCell _ _ _ k hk).trans ((Below.heap_setCell _ _ _ k hk).trans (Below.heap_setCell _ _ _ k hk))
  refine ⟨⟨h3, ⟨h.row.1, ?_⟩, h.few⟩, (only_of_below hb).trans ⟨rfl, rfl, rfl, by simp, fun k _ hne => hk k (by intro e; exact hne (by rw [e]))⟩⟩
  rcases (h.below hb).row.2 with hn | ⟨g, cap, cur, rfl, hb', hg, r⟩
  · exact .inl hn
  · refine .inr ⟨g, cap, cur, rfl, hb', (hk g (fun e => ?_)).trans hg, r⟩
    rw [e, ho] at hg
    injection hg with hg
    injection hg with _ hg _
    cases hg
end Go.Proofs.Ytjakmekifpbldaa
