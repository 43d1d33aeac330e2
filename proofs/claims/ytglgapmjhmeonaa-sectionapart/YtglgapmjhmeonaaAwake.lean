/-
  What is proved here: what the document's example says (awake); when a rectangle lies in another one.
-/
import Derived.Test.YtglgapmjhmeonaaWalkL
namespace Go.Proofs.Ytglgapmjhmeonaa
open Go.RowKit Go.Shelf

theorem plain_small : smB plainS = true := by decide
theorem plain_check : checkI plainS = 0 := by decide
theorem plain_page : pageI plainS 1 1 = 0 := by decide
theorem plain_cols : colsL plainS 1 = [⟨30, 40, 240, 320⟩] := by rfl

set_option maxRecDepth 100000 in
set_option maxHeartbeats 1000000 in
theorem awake_any (w : World) : Calls Try.prog 25 #[] w fun e w' => e = .returned (.bool true) ∧ Below w.heap.size w w' := by
  have hpl : Hid (∀ w, Calls Try.prog 15 #[] w fun e w' => e = .returned (seV plainS) ∧ Below w.heap.size w w') := plain_any
  have hco : Hid (∀ w, Calls Try.prog 9 #[seV plainS, .int .i64 1] w fun e w' => ∃ g, e = .returned (.tuple #[.slice (some ⟨g, 0, none⟩) 1 1, .int .i64 0]) ∧ w.heap.size ≤ g ∧ w'.heap[g]? = some (.cells (rcRow [⟨30, 40, 240, 320⟩]) 31 (0, 0)) ∧ Below w.heap.size w w') := fun w => by
    have := columns_yes plainS plain_small 1 plain_page w
    rw [plain_cols] at this
    exact this
  have hch : Hid (∀ w, Calls Try.prog 13 #[seV plainS] w fun e w' => e = .returned (.int .i64 0) ∧ Below w.heap.size w w') := fun w => by
    have := check_any plainS plain_small w
    rw [plain_check] at this
    exact this
  generalize seV plainS = pv at *
  go_enter Try.func25, Try.ntmps25
  go_wp2_with fail
  refine (hpl.out _).mono ?_
  rintro e w1 ⟨rfl, B1⟩
  go_wp2_with fail
  refine (hco.out _).mono ?_
  rintro e w2 ⟨g, rfl, hg, hG, B2⟩
  have D2 := B1.trans (B2.mono B1.size)
  have hr1 := row_rcs (cap := 1) hG (by decide)
  have D3 := D2.alloc D2.size (Obj.cells (rcRow [⟨30, 40, 240, 320⟩]) 31)
  have hr2 : RcsAt (w2.alloc (Obj.cells (rcRow [⟨30, 40, 240, 320⟩]) 31)) (.slice (some ⟨w2.heap.size, 0, none⟩) 1 1) [⟨30, 40, 240, 320⟩] := row_rcs (cap := 1) (heap_new w2 _) (by decide)
  have hr3 : RcsAt (w2.alloc (Obj.cells (rcRow [⟨30, 40, 240, 320⟩]) 31)) (.slice (some ⟨g, 0, none⟩) 1 1) [⟨30, 40, 240, 320⟩] := hr1.below ((Below.refl w2.heap.size w2).alloc (Nat.le_refl _) _) (Nat.le_refl _)
  have hrs : Hid (Calls Try.prog 17 #[.slice (some ⟨g, 0, none⟩) 1 1, .slice (some ⟨w2.heap.size, 0, none⟩) 1 1] (w2.alloc (Obj.cells (rcRow [⟨30, 40, 240, 320⟩]) 31)) fun e w' => e = .returned (.bool true) ∧ Below (w2.alloc (Obj.cells (rcRow [⟨30, 40, 240, 320⟩]) 31)).heap.size (w2.alloc (Obj.cells (rcRow [⟨30, 40, 240, 320⟩]) 31)) w') := rects_same _ _ _ _ hr3 hr2
  clear hr1 hr2 hr3 hG hco
  go_wp2_with fail
  refine hrs.out.mono ?_
  rintro e w4 ⟨rfl, B4⟩
  have D4 := D3.trans (B4.mono D3.size)
  go_wp2_with fail
  refine (hpl.out _).mono ?_
  rintro e w5 ⟨rfl, B5⟩
  have D5 := D4.trans (B5.mono D4.size)
  go_wp2_with fail
  refine (hch.out _).mono ?_
  rintro e w6 ⟨rfl, B6⟩
  go_wp2_with fail
  go_ret
  exact ⟨rfl, D5.trans (B6.mono D5.size)⟩

set_option maxRecDepth 100000 in
set_option maxHeartbeats 1000000 in
/-- A rectangle in another one. -/
theorem within_yes (a b : Rc) (h1 : 0 ≤ a.w) (h2 : 0 ≤ a.h) (h3 : b.x ≤ a.x) (h4 : b.y ≤ a.y) (h5 : a.x + a.w ≤ b.x + b.w) (h6 : a.y + a.h ≤ b.y + b.h) (ha : -1000000 ≤ a.x ∧ a.x ≤ 1000000 ∧ -1000000 ≤ a.y ∧ a.y ≤ 1000000 ∧ a.w ≤ 1000000 ∧ a.h ≤ 1000000) (hb : -1000000 ≤ b.x ∧ b.x ≤ 1000000 ∧ -1000000 ≤ b.y ∧ b.y ≤ 1000000 ∧ b.w ≤ 1000000 ∧ b.h ≤ 1000000) (w : World) :
    Calls Try.prog 26 #[rcV a, rcV b] w fun e w' => e = .returned (.bool true) ∧ Below w.heap.size w w' := by
  have hB : Below w.heap.size w ((w.alloc (Obj.cells (rcC a) 31)).alloc (Obj.cells (rcC b) 31)) := ((Below.refl w.heap.size w).alloc (Nat.le_refl _) _).alloc (by simp) _
  unfold rcV
  unfold rcC at *
  obtain ⟨ax, ay, aw, ah⟩ := a
  obtain ⟨bx, bY, bw, bh⟩ := b
  simp only at *
  obtain ⟨ha1, ha2, ha3, ha4, ha5, ha6⟩ := ha
  obtain ⟨hb1, hb2, hb3, hb4, hb5, hb6⟩ := hb
  go_enter Try.func26, Try.ntmps26
  go_wp2_with fail
  go_ret
  exact ⟨rfl, hB⟩
end Go.Proofs.Ytglgapmjhmeonaa
