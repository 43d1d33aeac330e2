/-
  What is proved here: what Clone answers of looks (for SpanScript).
-/
import Derived.Test.YtjakmekifpbldaaWalkR
import Derived.Laws.Cover3
namespace Go.Proofs.Ytjakmekifpbldaa
open Go.RowKit Go.Shelf

theorem eqlNil (W : World) (a : Option Addr) (l c : Nat) : (binOp .eql 44 (.slice a l c) (.slice none 0 0)).run Try.prog W = .ok (.bool a.isNone) W := by
  simp only [binOp]
  simp [run_equal_slice_nil W 44 72 a l c Try.underlying44]

set_option maxHeartbeats 1000000 in
theorem sclone_any (v : Value) (ps : List Sp) (hl : ps.length ≤ 4096) (w : World) (h : RowAt w 0 72 v ps) :
    Calls Try.prog 35 #[v] w fun e w' => ∃ u, e = .returned u ∧ RowAt w' w.heap.size 72 u ps ∧ Below w.heap.size w w' := by
  obtain ⟨i0, hi, hz0, hz1, hz2⟩ := info_parts info72
  have hB := (Below.refl w.heap.size w).alloc (Nat.le_refl _) (.cells #[] 72)
  have hsrc := h.srcs hB
  rcases row_form h.out with ⟨rfl, rfl⟩ | ⟨g, cap, rfl, _, _⟩
  · have he : ∀ W, (binOp .eql 44 (.slice none 0 0) (.slice none 0 0)).run Try.prog W = .ok (.bool true) W := fun W => eqlNil W none 0 0
    go_enter Try.func35, Try.ntmps35
    go_wp2
    go_ret
    exact ⟨_, rfl, World.ownsRow_nil _ _ _ _, Below.refl _ _⟩
  · have hsrc' : Hid _ := hsrc
    clear hsrc
    have he : ∀ W, (binOp .eql 44 (.slice (some ⟨g, 0, none⟩) ps.length cap) (.slice none 0 0)).run Try.prog W = .ok (.bool false) W := fun W => eqlNil W _ _ _
    go_enter Try.func35, Try.ntmps35
    go_wp2_with (at_builtin; refine wpList_append_any _ rfl _ _ 44 rfl w.heap.size 72 i0 _ 4 32 Try.underlying44 hi hz0 hz1 hz2 rfl (by decide) _ 0 [] rfl (ownsRow_lit w 72 4 _ (Nat.le_refl _)) ps.length (rowOf ps) _ rfl hsrc'.out (by unfold maxLen; omega) (by omega) (by simp) ?_; intro v' w2 hown hgrow; rw [Nat.zero_add, List.nil_append] at hown; replace hown := rowAt_of hown)
    have hB2 : Below w.heap.size w w2 := below_grown hB (ownsRow_lit w 72 4 _ (Nat.le_refl _)) (Nat.le_refl _) (Nat.le_refl _) hgrow
    obtain ⟨a2, cp2, rfl⟩ := hown.form
    go_wp2_with fail
    go_ret
    exact ⟨_, rfl, hown, hB2⟩

set_option maxRecDepth 100000 in
set_option maxHeartbeats 4000000 in
theorem clone_ok (t : Nat) (sv : Value) (L : List Ch) (m : Ch) (w : World) (h : LooksAt t sv L m w) :
    Calls Try.prog 12 #[.pointer (some ⟨t, 0, none⟩)] w fun e w' => ∃ t2 sv2, e = .returned (.pointer (some ⟨t2, 0, none⟩)) ∧ w.heap.size ≤ t2 ∧ LooksAt t2 sv2 L m w' ∧ Below w.heap.size w w' ∧ ∀ g, sv2.ownBlock = some g → w.heap.size ≤ g := by
  have hfew := h.few
  have hmade := made_yes t w h.cells.1
  obtain ⟨_, c1, c2, c3, c4⟩ := h.cells
  have hlt := h.lt
  have hrow : RowAt w 0 72 sv (ends 0 (rle L)) := by
    have := h.row
    rw [← ends_length 0] at this
    exact this
  have hcl : ∀ W, Below w.heap.size w W → Calls Try.prog 35 #[sv] W fun e w' => ∃ u, e = .returned u ∧ RowAt w' W.heap.size 72 u (ends 0 (rle L)) ∧ Below W.heap.size W w' := fun W hW => sclone_any sv _ (by rw [ends_length]; exact Nat.le_trans (rle_len_le L) hfew) W (hrow.below hW)
  have hlk := fun v W => looksOf_any v L m hfew W
  unfold chV at hlk
  have hlk' : Hid _ := hlk
  have hcl' : Hid _ := hcl
  obtain ⟨a0, cp0, rfl⟩ := hrow.form
  have hb0 := Below.refl w.heap.size w
  clear hlk hcl h hrow
  go_enter Try.func12, Try.ntmps12
  go_wp2_with (go_at_call 34; refine hmade.mono ?_; rintro e w' ⟨rfl, hww⟩; subst w')
  go_region_with (first
    | (go_at_call 35; refine (hcl'.out _ (by exact ⟨hb0.1, hb0.2, hb0.3, hb0.4, hb0.5⟩)).mono ?_; rintro e w1 ⟨u1, rfl, r1, hb1⟩; obtain ⟨a1, cp1, rfl⟩ := r1.form; have B1 : Below w.heap.size w w1 := (by exact ⟨hb1.1, hb1.2, hb1.3, hb1.4, hb1.5⟩); clear hb1; have d2 : w1.cell? ⟨t, 2, none⟩ = _ := (B1.cell hlt).trans c2; have d3 : w1.cell? ⟨t, 3, none⟩ = _ := (B1.cell hlt).trans c3; have d4 : w1.cell? ⟨t, 4, none⟩ = _ := (B1.cell hlt).trans c4)
    | (go_at_call 30; refine (hlk'.out _ _ (by exact joined r1)).mono ?_; rintro e w2 ⟨t2, rfl, ht2, hL2, hb2⟩; have B2 : Below w1.heap.size w1 w2 := (by exact ⟨hb2.1, hb2.2, hb2.3, hb2.4, hb2.5⟩); clear hb2))
  all_goals
    go_wp2_with fail
    go_ret
    exact ⟨t2, _, rfl, Nat.le_trans B1.size ht2, hL2, B1.trans (B2.mono B1.size), fun g hg => (r1.out.lt g hg).1⟩
end Go.Proofs.Ytjakmekifpbldaa
