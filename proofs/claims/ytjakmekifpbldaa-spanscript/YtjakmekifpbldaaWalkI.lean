/-
  What is proved here: what New answers.
-/
import Derived.Test.YtjakmekifpbldaaWalkH
namespace Go.Proofs.Ytjakmekifpbldaa
open Go.RowKit Go.Shelf

theorem RowAt.form {W : World} {base : Nat} {e : TypeId} {v : Value} {ps : List Sp} (h : RowAt W base e v ps) : ∃ a cap, v = .slice a ps.length cap := slice_form h.out
theorem RowAt.below {W W' : World} {base : Nat} {e : TypeId} {v : Value} {ps : List Sp} (h : RowAt W base e v ps) (hb : Below W.heap.size W W') : RowAt W' base e v ps := ownsRow_below h.out hb
theorem RowAt.base {W : World} {base base' : Nat} {e : TypeId} {v : Value} {ps : List Sp} (h : RowAt W base e v ps) (hb : base' ≤ base) : RowAt W base' e v ps := ownsRow_base h.out hb

theorem lists1 {W : World} {v0 : Value} {ps0 : List Sp} {b0 : Nat} (h0 : RowAt W b0 61 v0 ps0) : ListsAt (W.alloc (.cells #[v0] 40)) (.slice (some ⟨W.heap.size, 0, none⟩) 1 1) [ps0] := by
  have hB := (Below.refl W.heap.size W).alloc (Nat.le_refl _) (.cells #[v0] 40)
  refine ⟨W.heap.size, 1, rfl, by simp, fun i hi => ?_⟩
  obtain rfl : i = 0 := by simp at hi; omega
  exact ⟨v0, by rw [Lib.cell_of_heap (heap_new W _)]; rfl, (h0.below hB).base (Nat.zero_le _)⟩
theorem lists2 {W : World} {v0 v1 : Value} {ps0 ps1 : List Sp} {b0 b1 : Nat} (h0 : RowAt W b0 61 v0 ps0) (h1 : RowAt W b1 61 v1 ps1) : ListsAt (W.alloc (.cells #[v0, v1] 40)) (.slice (some ⟨W.heap.size, 0, none⟩) 2 2) [ps0, ps1] := by
  have hB := (Below.refl W.heap.size W).alloc (Nat.le_refl _) (.cells #[v0, v1] 40)
  refine ⟨W.heap.size, 2, rfl, by simp, fun i hi => ?_⟩
  match i, hi with
  | 0, _ => exact ⟨v0, by rw [Lib.cell_of_heap (heap_new W _)]; rfl, (h0.below hB).base (Nat.zero_le _)⟩
  | 1, _ => exact ⟨v1, by rw [Lib.cell_of_heap (heap_new W _)]; rfl, (h1.below hB).base (Nat.zero_le _)⟩
  | i + 2, hi => exact absurd hi (by simp)
theorem lists3 {W : World} {v0 v1 v2 : Value} {ps0 ps1 ps2 : List Sp} {b0 b1 b2 : Nat} (h0 : RowAt W b0 61 v0 ps0) (h1 : RowAt W b1 61 v1 ps1) (h2 : RowAt W b2 61 v2 ps2) : ListsAt (W.alloc (.cells #[v0, v1, v2] 40)) (.slice (some ⟨W.heap.size, 0, none⟩) 3 3) [ps0, ps1, ps2] := by
  have hB := (Below.refl W.heap.size W).alloc (Nat.le_refl _) (.cells #[v0, v1, v2] 40)
  refine ⟨W.heap.size, 3, rfl, by simp, fun i hi => ?_⟩
  match i, hi with
  | 0, _ => exact ⟨v0, by rw [Lib.cell_of_heap (heap_new W _)]; rfl, (h0.below hB).base (Nat.zero_le _)⟩
  | 1, _ => exact ⟨v1, by rw [Lib.cell_of_heap (heap_new W _)]; rfl, (h1.below hB).base (Nat.zero_le _)⟩
  | 2, _ => exact ⟨v2, by rw [Lib.cell_of_heap (heap_new W _)]; rfl, (h2.below hB).base (Nat.zero_le _)⟩
  | i + 3, hi => exact absurd hi (by simp)

/-- The three of New in one: the runs of n bytes that look alike. -/
theorem bytesS_flat (n : Nat) (c : Ch) : expand ([bytesS n c].flatten) = List.replicate n c := by simp [bytesS_expand]

set_option maxHeartbeats 1000000 in
theorem new_bad (n : Int) (c : Ch) (hc : mayC c = false) (w : World) :
    Calls Try.prog 8 #[.int .i64 n, chV c] w fun e w' => e = .returned (.tuple #[.pointer none, .int .i64 2]) ∧ Below w.heap.size w w' := by
  have hmay := may_any c
  rw [hc] at hmay
  unfold chV at *
  go_enter Try.func8, Try.ntmps8
  go_wp2_with (go_at_call 10; refine (hmay _).mono ?_; rintro e w' ⟨rfl, hb'⟩)
  go_ret2
  have hba := (Below.refl w.heap.size w).alloc (Nat.le_refl _) (Obj.cells #[.int .i64 c.s, .int .i64 c.t, .int .i64 c.k] 23)
  exact ⟨rfl, hba.trans (hb'.mono hba.size)⟩

set_option maxHeartbeats 1000000 in
theorem new_out (n : Int) (c : Ch) (hc : mayC c = true) (hn : n < 0 ∨ 4096 < n) (w : World) :
    Calls Try.prog 8 #[.int .i64 n, chV c] w fun e w' => e = .returned (.tuple #[.pointer none, .int .i64 (if n < 0 then 5 else 8)]) ∧ Below w.heap.size w w' := by
  have hmay := may_any c
  rw [hc] at hmay
  unfold chV at *
  have hba := (Below.refl w.heap.size w).alloc (Nat.le_refl _) (Obj.cells #[.int .i64 c.s, .int .i64 c.t, .int .i64 c.k] 23)
  by_cases h0 : n < 0
  · rw [if_pos h0]
    go_enter Try.func8, Try.ntmps8
    go_wp2_with (go_at_call 10; refine (hmay _).mono ?_; rintro e w' ⟨rfl, hb'⟩)
    go_ret2
    exact ⟨rfl, hba.trans (hb'.mono hba.size)⟩
  · rw [if_neg h0]
    have h1 : 4096 < n := by omega
    go_enter Try.func8, Try.ntmps8
    go_wp2_with (go_at_call 10; refine (hmay _).mono ?_; rintro e w' ⟨rfl, hb'⟩)
    go_ret2
    exact ⟨rfl, hba.trans (hb'.mono hba.size)⟩

theorem joined {w w' : World} {L : List Ch} {u : Value} (h : RowAt w' w.heap.size 72 u (ends 0 (rle L))) : w'.ownsRow 0 72 4 u (rle L).length (rowOf (ends 0 (rle L))) := by
  have := ownsRow_base h.out (Nat.zero_le _)
  rwa [ends_length] at this

theorem box_after {w w1 : World} {c : Ch} (h : Below (w.alloc (.cells #[.int .i64 c.s, .int .i64 c.t, .int .i64 c.k] 23)).heap.size (w.alloc (.cells #[.int .i64 c.s, .int .i64 c.t, .int .i64 c.k] 23)) w1) :
    Below w.heap.size w w1 ∧ w.heap.size < w1.heap.size ∧ w1.cell? ⟨w.heap.size, 0, none⟩ = some (.int .i64 c.s) ∧ w1.cell? ⟨w.heap.size, 1, none⟩ = some (.int .i64 c.t) ∧ w1.cell? ⟨w.heap.size, 2, none⟩ = some (.int .i64 c.k) := by
  have hB := (Below.refl w.heap.size w).alloc (Nat.le_refl _) (.cells #[.int .i64 c.s, .int .i64 c.t, .int .i64 c.k] 23)
  have hx := (h.block w.heap.size (by simp)).trans (heap_new w _)
  refine ⟨hB.trans (h.mono hB.size), (Array.getElem?_eq_some_iff.1 hx).1, ?_, ?_, ?_⟩ <;> (rw [Lib.cell_of_heap hx]; rfl)

theorem box_step {w1 w2 : World} {B : Nat} {c : Ch} (hB : B < w1.heap.size) (x0 : w1.cell? ⟨B, 0, none⟩ = some (.int .i64 c.s)) (x1 : w1.cell? ⟨B, 1, none⟩ = some (.int .i64 c.t)) (x2 : w1.cell? ⟨B, 2, none⟩ = some (.int .i64 c.k)) (h : Below w1.heap.size w1 w2) :
    B < w2.heap.size ∧ w2.cell? ⟨B, 0, none⟩ = some (.int .i64 c.s) ∧ w2.cell? ⟨B, 1, none⟩ = some (.int .i64 c.t) ∧ w2.cell? ⟨B, 2, none⟩ = some (.int .i64 c.k) :=
  ⟨Nat.lt_of_lt_of_le hB h.size, (h.cell hB).trans x0, (h.cell hB).trans x1, (h.cell hB).trans x2⟩
theorem rowAt_of {W : World} {base : Nat} {e : TypeId} {v : Value} {ps : List Sp} (h : W.ownsRow base e 4 v ps.length (rowOf ps)) : RowAt W base e v ps := h

set_option maxRecDepth 100000 in
set_option maxHeartbeats 4000000 in
theorem new_ok (n : Nat) (c : Ch) (hc : mayC c = true) (hn : n ≤ 4096) (w : World) :
    Calls Try.prog 8 #[.int .i64 n, chV c] w fun e w' => ∃ t sv, e = .returned (.tuple #[.pointer (some ⟨t, 0, none⟩), .int .i64 0]) ∧ w.heap.size ≤ t ∧ LooksAt t sv (List.replicate n c) c w' ∧ Below w.heap.size w w' := by
  have hmay := may_any c
  rw [hc] at hmay
  have hbo := bytesOf_any n c
  have hfl := bytesS_flat n c
  have hfu : full [bytesS n c].flatten := by simpa using bytesS_full n c
  have hto : tot [bytesS n c].flatten ≤ 4096 := by rw [← tot_expand, hfl]; simpa using hn
  have hjo := fun v W => join_any v [bytesS n c] hfu hto (by simp) W
  rw [hfl] at hjo
  have hlk := fun v W => looksOf_any v (List.replicate n c) c (by simpa using hn) W
  have hjo' : Hid _ := hjo
  have hlk' : Hid _ := hlk
  have hbo' : Hid _ := hbo
  clear hjo hlk hfu hto hfl hbo
  unfold chV at *
  go_enter Try.func8, Try.ntmps8
  go_wp2_with (go_at_call 10; refine (hmay _).mono ?_; rintro e w1 ⟨rfl, hb1⟩)
  obtain ⟨B1, xB, x0, x1, x2⟩ := box_after hb1
  clear hb1 hmay
  go_region_with (first
    | (go_at_call 32; refine (hbo'.out _).mono ?_; rintro e w2 ⟨v2, rfl, hr2, hb2⟩; have hr2' := rowAt_of hr2; clear hr2; obtain ⟨a2, cp2, rfl⟩ := hr2'.form; have B2 : Below w1.heap.size w1 w2 := (by exact ⟨hb2.1, hb2.2, hb2.3, hb2.4, hb2.5⟩); clear hb2; obtain ⟨yB, y0, y1, y2⟩ := box_step xB x0 x1 x2 B2)
    | (go_at_call 31; refine (hjo'.out _ _ (by exact lists1 hr2')).mono ?_; rintro e w3 ⟨v3, rfl, hr3, hb3⟩; obtain ⟨a3, cp3, rfl⟩ := hr3.form; have B3 : Below w2.heap.size w2 w3 := (by exact ((Below.refl w2.heap.size w2).alloc (Nat.le_refl _) _).trans (Below.mono ⟨hb3.1, hb3.2, hb3.3, hb3.4, hb3.5⟩ (by simp))); clear hb3; obtain ⟨zB, z0, z1, z2⟩ := box_step yB y0 y1 y2 B3)
    | (go_at_call 30; refine (hlk'.out _ _ (by exact joined hr3)).mono ?_; rintro e w4 ⟨t, rfl, ht, hL, hb4⟩; have B4 : Below w3.heap.size w3 w4 := (by exact ⟨hb4.1, hb4.2, hb4.3, hb4.4, hb4.5⟩); clear hb4))
  all_goals
    go_wp2_with fail
    go_ret2
    have C2 := B1.trans (B2.mono B1.size)
    have C3 := C2.trans (B3.mono C2.size)
    exact ⟨t, _, rfl, Nat.le_trans C3.size ht, hL, C3.trans (B4.mono C3.size)⟩
end Go.Proofs.Ytjakmekifpbldaa
