/-
  What is proved here: looks in memory; what lengthOf, Len, bytesOf, looksOf and runAt answer.
-/
import Derived.Test.YtjakmekifpbldaaWalkD
import Derived.Test.YtjakmekifpbldaaRow
import Derived.Test.YtjakmekifpbldaaShelf
import Derived.Test.YtjakmekifpbldaaMath2
import Derived.RangeFuncNested
import Derived.RangeFuncBound
import Derived.RangeFuncCalls
namespace Go.Proofs.Ytjakmekifpbldaa
open Go.RowKit Go.Shelf Go.Sort

/-- Looks: their bytes, what is kept in mind, where they lie. -/
structure LooksAt (t : Nat) (sv : Value) (L : List Ch) (m : Ch) (W : World) : Prop where
  obj : W.heap[t]? = some (.cells #[.pointer (some ⟨t, 0, none⟩), sv, .int .i64 m.s, .int .i64 m.t, .int .i64 m.k] 46 (0, 0))
  row : W.ownsRow 0 72 4 sv (rle L).length (rowOf (ends 0 (rle L)))
  few : L.length ≤ 4096

theorem LooksAt.lt {t : Nat} {sv : Value} {L : List Ch} {m : Ch} {W : World} (h : LooksAt t sv L m W) : t < W.heap.size := (Array.getElem?_eq_some_iff.1 h.obj).1
theorem LooksAt.below {t : Nat} {sv : Value} {L : List Ch} {m : Ch} {W W' : World} (h : LooksAt t sv L m W) (hb : Below W.heap.size W W') : LooksAt t sv L m W' :=
  ⟨(hb.block t h.lt).trans h.obj, ownsRow_below h.row hb, h.few⟩
theorem LooksAt.cells {t : Nat} {sv : Value} {L : List Ch} {m : Ch} {W : World} (h : LooksAt t sv L m W) :
    W.cell? ⟨t, 0, none⟩ = some (.pointer (some ⟨t, 0, none⟩)) ∧ W.cell? ⟨t, 1, none⟩ = some sv ∧ W.cell? ⟨t, 2, none⟩ = some (.int .i64 m.s) ∧ W.cell? ⟨t, 3, none⟩ = some (.int .i64 m.t) ∧ W.cell? ⟨t, 4, none⟩ = some (.int .i64 m.k) := by
  refine ⟨?_, ?_, ?_, ?_, ?_⟩ <;> (rw [Lib.cell_of_heap h.obj]; rfl)

/-- The slice's own form. -/
theorem row_form {W : World} {base : Nat} {e : TypeId} {v : Value} {ps : List Sp} (h : W.ownsRow base e 4 v ps.length (rowOf ps)) : (ps = [] ∧ v = .slice none 0 0) ∨ ∃ g cap, v = .slice (some ⟨g, 0, none⟩) ps.length cap ∧ base ≤ g ∧ g < W.heap.size := by
  rcases h.2 with ⟨hv, hn⟩ | ⟨g, cap, cur, hv, hb, hg, _⟩
  · exact .inl ⟨List.eq_nil_of_length_eq_zero hn, hv⟩
  · exact .inr ⟨g, cap, hv, hb, (Array.getElem?_eq_some_iff.1 hg).1⟩

/-- The cells of run i. -/
theorem run_cells {W : World} {base : Nat} {v : Value} {R : List Sp} (h : W.ownsRow base 72 4 v R.length (rowOf (ends 0 R))) :
    (R = [] ∧ v = .slice none 0 0) ∨ ∃ g cap, v = .slice (some ⟨g, 0, none⟩) R.length cap ∧ base ≤ g ∧ g < W.heap.size ∧ ∀ (i : Nat) (hi : i < R.length),
      W.cell? ⟨g, i * 4, none⟩ = some (.int .i64 (tot (R.take (i + 1)))) ∧ W.cell? ⟨g, i * 4 + 1, none⟩ = some (.int .i64 R[i].2.s) ∧ W.cell? ⟨g, i * 4 + 2, none⟩ = some (.int .i64 R[i].2.t) ∧ W.cell? ⟨g, i * 4 + 3, none⟩ = some (.int .i64 R[i].2.k) := by
  have hel := ends_length 0 R
  have h' : W.ownsRow base 72 4 v (ends 0 R).length (rowOf (ends 0 R)) := by rw [hel]; exact h
  rcases row_form h' with ⟨h0, rfl⟩ | ⟨g, cap, hv, hb, hg⟩
  · exact .inl ⟨List.eq_nil_of_length_eq_zero (by rw [← hel, h0]; rfl), rfl⟩
  · refine .inr ⟨g, cap, by rw [hv, hel], hb, hg, fun i hi => ?_⟩
    have hi' : i < (ends 0 R).length := by omega
    have hc := row_cell h' hv hi'
    have h1 := ends_get 0 R hi
    rw [List.getElem?_eq_getElem hi'] at h1
    injection h1 with h1
    rw [h1] at hc
    simpa using hc

set_option maxHeartbeats 400000 in
theorem lengthOf_row (v : Value) (R : List Sp) (w : World) (base : Nat) (h : w.ownsRow base 72 4 v R.length (rowOf (ends 0 R))) (hlen : R.length ≤ 9223372036854775807) :
    Calls Try.prog 46 #[v] w fun e w' => e = .returned (.int .i64 (tot R)) ∧ w' = w := by
  rcases run_cells h with ⟨rfl, rfl⟩ | ⟨g, cap, rfl, _, _, hc⟩
  · go_enter Try.func46, Try.ntmps46
    go_wp2
    go_ret
    exact ⟨rfl, rfl⟩
  · by_cases h0 : R.length = 0
    · have : R = [] := List.eq_nil_of_length_eq_zero h0
      subst this
      go_enter Try.func46, Try.ntmps46
      go_wp2
      go_ret
      exact ⟨rfl, rfl⟩
    · obtain ⟨c0, _, _, _⟩ := hc (R.length - 1) (by omega)
      have hg : tot (R.take (R.length - 1 + 1)) = tot R := tot_last R (fun h => h0 (by rw [h]; rfl))
      rw [hg] at c0
      clear hg h hc
      obtain ⟨n, hn⟩ : ∃ n, R.length = n + 1 := ⟨R.length - 1, by omega⟩
      generalize tot R = T at c0 ⊢
      rw [hn] at c0 hlen ⊢
      simp only [Nat.add_sub_cancel] at c0
      clear hn
      go_enter Try.func46, Try.ntmps46
      go_wp2
      go_ret
      exact ⟨rfl, rfl⟩

set_option maxHeartbeats 400000 in
theorem len_looks (t : Nat) (sv : Value) (L : List Ch) (m : Ch) (w : World) (h : LooksAt t sv L m w) :
    Calls Try.prog 24 #[.pointer (some ⟨t, 0, none⟩)] w fun e w' => e = .returned (.int .i64 L.length) ∧ w' = w := by
  obtain ⟨c0, c1, _, _, _⟩ := h.cells
  have hlo := lengthOf_row sv (rle L) w 0 h.row (by have := rle_len_le L; have := h.few; omega)
  rw [rle_length] at hlo
  go_enter Try.func24, Try.ntmps24
  go_wp2_with (first
    | (go_at_call 34; refine (made_yes _ _ c0).mono ?_; rintro e w' ⟨rfl, rfl⟩)
    | (go_at_call 46; refine hlo.mono ?_; rintro e w' ⟨rfl, rfl⟩))
  go_ret
  exact ⟨rfl, rfl⟩

/-- So many bytes that look alike. -/
def bytesS (n : Nat) (c : Ch) : List Sp := if n = 0 then [] else [(n, c)]
theorem bytesS_expand (n : Nat) (c : Ch) : expand (bytesS n c) = List.replicate n c := by unfold bytesS; split <;> simp_all [expand]
theorem bytesS_full (n : Nat) (c : Ch) : full (bytesS n c) := by
  unfold bytesS; split
  · simp [full]
  · intro p hp; simp at hp; subst hp; show 0 < n; omega

theorem ownsRow_one {w : World} {e : TypeId} {size : Nat} (cs : Array Value) (base : Nat) (hb : base ≤ w.heap.size) (hs : cs.size = size) : (w.alloc (.cells cs e)).ownsRow base e size (.slice (some ⟨w.heap.size, 0, none⟩) 1 1) 1 cs.toList :=
  ⟨by rw [Nat.one_mul, ← hs]; simp, .inr ⟨w.heap.size, 1, cs, rfl, hb, heap_new w _, by omega, by unfold maxLen; omega, by omega, by rw [Nat.one_mul]; exact List.take_of_length_le (by simp [hs])⟩⟩

set_option maxHeartbeats 400000 in
theorem bytesOf_any (n : Nat) (c : Ch) (w : World) :
    Calls Try.prog 32 #[.int .i64 n, chV c] w fun e w' => ∃ v, e = .returned v ∧ w'.ownsRow w.heap.size 61 4 v (bytesS n c).length (rowOf (bytesS n c)) ∧ Below w.heap.size w w' := by
  unfold chV
  by_cases h0 : n = 0
  · subst h0
    go_enter Try.func32, Try.ntmps32
    go_wp2
    go_ret
    exact ⟨_, rfl, World.ownsRow_nil _ _ _ _, (Below.refl _ w).alloc (Nat.le_refl _) _⟩
  · go_enter Try.func32, Try.ntmps32
    go_wp2
    go_ret
    refine ⟨_, rfl, ?_, ((Below.refl _ w).alloc (Nat.le_refl _) _).alloc (by simp) _⟩
    have hb : bytesS n c = [(n, c)] := if_neg h0
    rw [hb]
    have := ownsRow_one (w := w.alloc (.cells #[.int .i64 c.s, .int .i64 c.t, .int .i64 c.k] 23)) (e := 61) (size := 4) #[.int .i64 n, .int .i64 c.s, .int .i64 c.t, .int .i64 c.k] w.heap.size (by simp) rfl
    rw [World.size_alloc] at this
    exact this

set_option maxHeartbeats 400000 in
theorem looksOf_mem (a : Option Addr) (n cap : Nat) (c : Ch) (w : World) :
    Calls Try.prog 30 #[.slice a n cap, chV c] w fun e w' => e = .returned (.pointer (some ⟨w.heap.size + 1, 0, none⟩)) ∧
      w' = (w.alloc (.cells #[.int .i64 c.s, .int .i64 c.t, .int .i64 c.k] 23)).alloc (.cells #[.pointer (some ⟨w.heap.size + 1, 0, none⟩), .slice a n cap, .int .i64 c.s, .int .i64 c.t, .int .i64 c.k] 46) := by
  unfold chV
  go_enter Try.func30, Try.ntmps30
  go_wp2
  go_ret
  exact ⟨rfl, rfl⟩

theorem slice_form {W : World} {base : Nat} {e : TypeId} {size n : Nat} {v : Value} {xs : List Value} (h : W.ownsRow base e size v n xs) : ∃ a cap, v = .slice a n cap := by
  rcases h.2 with ⟨hv, hn⟩ | ⟨g, cap, cur, hv, _⟩
  · exact ⟨none, 0, by rw [hv, hn]⟩
  · exact ⟨_, _, hv⟩

theorem looksOf_any (v : Value) (L : List Ch) (c : Ch) (hL : L.length ≤ 4096) (w : World) (h : w.ownsRow 0 72 4 v (rle L).length (rowOf (ends 0 (rle L)))) :
    Calls Try.prog 30 #[v, chV c] w fun e w' => ∃ t, e = .returned (.pointer (some ⟨t, 0, none⟩)) ∧ w.heap.size ≤ t ∧ LooksAt t v L c w' ∧ Below w.heap.size w w' := by
  obtain ⟨a, cap, rfl⟩ := slice_form h
  refine (looksOf_mem a _ cap c w).mono ?_
  rintro e w' ⟨rfl, rfl⟩
  have hB := ((Below.refl w.heap.size w).alloc (Nat.le_refl _) (.cells #[.int .i64 c.s, .int .i64 c.t, .int .i64 c.k] 23)).alloc (by simp) (.cells #[.pointer (some ⟨w.heap.size + 1, 0, none⟩), .slice a (rle L).length cap, .int .i64 c.s, .int .i64 c.t, .int .i64 c.k] 46)
  refine ⟨_, rfl, by omega, ⟨?_, ownsRow_below h hB, hL⟩, hB⟩
  have := heap_new (w.alloc (.cells #[.int .i64 c.s, .int .i64 c.t, .int .i64 c.k] 23)) (.cells #[.pointer (some ⟨w.heap.size + 1, 0, none⟩), .slice a (rle L).length cap, .int .i64 c.s, .int .i64 c.t, .int .i64 c.k] 46)
  rwa [World.size_alloc] at this

set_option maxHeartbeats 1000000 in
/-- The closure of runAt. -/
theorem runAt1_any (Bl Ba t g cap n : Nat) (k x y : Nat) (hk : k < n) (w : World) (h1 : w.cell? ⟨Bl, 0, none⟩ = some (.pointer (some ⟨t, 0, none⟩))) (h2 : w.cell? ⟨Ba, 0, none⟩ = some (.int .i64 x))
    (h3 : w.cell? ⟨t, 1, none⟩ = some (.slice (some ⟨g, 0, none⟩) n cap)) (h4 : w.cell? ⟨g, k * 4, none⟩ = some (.int .i64 y)) :
    Calls Try.prog 50 #[.int .i64 k, .pointer (some ⟨Bl, 0, none⟩), .pointer (some ⟨Ba, 0, none⟩)] w fun e w' => e = .returned (.bool (decide (x < y))) ∧ ∃ q, w' = w.drewN q := by
  go_enter Try.func50, Try.ntmps50
  go_wp2_with fail
  go_quiet (fail)
  go_wp2_with fail
  go_ret
  exact ⟨by simp, _, rfl⟩

set_option maxHeartbeats 1000000 in
theorem runAt_any (t : Nat) (sv : Value) (L : List Ch) (m : Ch) (x : Nat) (w : World) (h : LooksAt t sv L m w) :
    Calls Try.prog 42 #[.pointer (some ⟨t, 0, none⟩), .int .i64 x] w fun e w' => e = .returned (.int .i64 (idx L x)) ∧ Below w.heap.size w w' := by
  obtain ⟨_, c1, _, _, _⟩ := h.cells
  have hlen : (rle L).length ≤ 4096 := Nat.le_trans (rle_len_le L) h.few
  have hlt := h.lt
  obtain ⟨w2, hw2⟩ : ∃ w2, (w.alloc (.cells #[.pointer (some ⟨t, 0, none⟩)] 25)).alloc (.cells #[.int .i64 x] 3) = w2 := ⟨_, rfl⟩
  have hb2 : Below w.heap.size w w2 := by rw [← hw2]; exact ((Below.refl _ w).alloc (Nat.le_refl _) _).alloc (by simp) _
  have hB1 : w2.cell? ⟨w.heap.size, 0, none⟩ = some (.pointer (some ⟨t, 0, none⟩)) := by
    rw [← hw2]; rw [Lib.cell_of_heap ((Below.heap_alloc _ _ _ (by simp)).trans (heap_new w _))]; rfl
  have hB2 : w2.cell? ⟨w.heap.size + 1, 0, none⟩ = some (.int .i64 x) := by
    have := heap_new (w.alloc (.cells #[.pointer (some ⟨t, 0, none⟩)] 25)) (.cells #[.int .i64 x] 3)
    rw [World.size_alloc, hw2] at this
    rw [Lib.cell_of_heap this]; rfl
  have hs2 : w2.heap.size = w.heap.size + 2 := by rw [← hw2]; simp
  have hsr : Calls Try.prog 49 #[.int .i64 (rle L).length, .func (.func 50) #[] #[.pointer (some ⟨w.heap.size, 0, none⟩), .pointer (some ⟨w.heap.size + 1, 0, none⟩)]] w2 fun e w' => e = .returned (.int .i64 (idx L x)) ∧ ∃ q os, w' = Sort.grow (w2.drewN q) os := by
    refine Any.sort_Search Try.search 50 #[.pointer (some ⟨w.heap.size, 0, none⟩), .pointer (some ⟨w.heap.size + 1, 0, none⟩)] (rle L).length (fun i => decide (x < tot ((rle L).take (i + 1)))) w2 (enters_of Try.func50 (by kernel_rfl) rfl) (by omega) ?_ ?_
    · intro mq os i hi
      rcases run_cells h.row with ⟨h0, _⟩ | ⟨g, cap, hv, _, hg, hc⟩
      · rw [h0] at hi; simp at hi
      · have hlift : ∀ a v, w2.cell? a = some v → (Sort.grow (w2.drewN mq) os).cell? a = some v := fun a v hv => cell_grown (World.block_lt_of_cell? _ _ hv) hv mq os
        have l1 : ∀ a v, a.block < w.heap.size → w.cell? a = some v → w2.cell? a = some v := fun a v hl hv => (hb2.cell hl).trans hv
        rw [hv] at c1
        refine (runAt1_any w.heap.size (w.heap.size + 1) t g cap (rle L).length i x _ hi _ (hlift _ _ hB1) (hlift _ _ hB2) (hlift _ _ (l1 _ _ hlt c1)) (hlift _ _ (l1 _ _ hg (hc i hi).1))).mono ?_
        rintro e w' ⟨rfl, q, rfl⟩
        exact ⟨rfl, q, #[], by rw [grow_empty]⟩
    · intro a b hab hb ha
      have := tot_take_mono (rle L) (show a + 1 ≤ b + 1 by omega)
      simp at ha ⊢
      omega
  obtain ⟨aa, cap, hv⟩ := slice_form h.row
  rw [hv] at c1
  have c2 : w2.cell? ⟨t, 1, none⟩ = _ := (hb2.cell hlt).trans c1
  clear h
  go_enter Try.func42, Try.ntmps42
  go_wp2_with fail
  try rw [hw2]
  refine hsr.mono ?_
  rintro e w' ⟨rfl, q, os, rfl⟩
  go_wp2_with fail
  go_ret
  exact ⟨rfl, hb2.trans ((below_grown_sl _ w2 q os (Nat.le_refl _)).mono hb2.size)⟩
end Go.Proofs.Ytjakmekifpbldaa
