/-
  What is proved here: what the document's own style answers of a style, given what it answers of its parent (for StyleScript).
-/
import Derived.Test.YtifkelpgpdgenaaXRefE
import Derived.Test.YtifkelpgpdgenaaXRefF
namespace Go.Proofs.Ytifkelpgpdgenaa
open Go.RowKit Go.Shelf

variable {X : Nat → Prop}
set_option maxRecDepth 100000 in
set_option maxHeartbeats 2000000 in
theorem refStyle_step (g : Nat) (T : List (Str × Sty)) (s : Str) (hs : s ≠ e0) (w : World) (hR : RefAt X w g T) (i : Nat) (hi : i < T.length) (hLp : allP T[i].2.2) (R : List Int → Prop) (hRl : ∀ m, R m → m.length = 17)
    (hAt : ∀ W, Below w.heap.size w W → Calls Try.prog 44 #[.pointer (some ⟨g, 0, none⟩), .string s] W fun e w' => e = .returned (.int .i64 i) ∧ w' = W)
    (hmk : ∀ W, Below w.heap.size w W → Calls Try.prog 59 #[.pointer (some ⟨g, 0, none⟩), .string T[i].2.1] W fun e w' => ∃ m, R m ∧ e = .returned (.agg (prC m)) ∧ Below W.heap.size W w') :
    Calls Try.prog 59 #[.pointer (some ⟨g, 0, none⟩), .string s] w fun e w' => ∃ m, R m ∧ e = .returned (.agg (prC (applyL m T[i].2.2))) ∧ Below w.heap.size w w' := by
  have hg := hR.lt
  obtain ⟨v, hv, hS⟩ := hR.ex
  obtain ⟨a, cap, rfl, h2⟩ := hS.ex
  have hlen := hS.few
  have hq : (ByteArray.toList s).isEmpty = false := by first | exact isEmpty_no hs | exact isEmpty_no (size_pos hs)
  clear hS
  rcases h2 with h2 | ⟨b, o, rfl, hbl, _, hc⟩
  · rw [h2] at hi; simp at hi
  obtain ⟨c0, c1, a', cap', c2, hLx⟩ := hc i hi
  have hL := hLx.toSetsAt
  clear hc
  obtain ⟨w0, hw0⟩ : ∃ w0, (w.alloc (.cells (prC zeroL) 23)) = w0 := ⟨_, rfl⟩
  have hB0 : Below w.heap.size w w0 := by rw [← hw0]; exact ((Below.refl _ w).alloc (Nat.le_refl _) _)
  have hs0 : w0.heap.size = w.heap.size + 1 := by rw [← hw0]; simp
  have hZ0 : PB w0 w.heap.size 23 zeroL := by rw [← hw0]; exact PB.new w rfl
  have d0 := (hB0.cell hbl).trans c0
  have d1 := (hB0.cell hbl).trans c1
  have d2 := (hB0.cell hbl).trans c2
  have dv := (hB0.cell hg).trans hv
  clear c0 c1 c2 hv
  have hbl' : b < w0.heap.size := by omega
  have hg' : g < w0.heap.size := by omega
  obtain ⟨W1, hW1⟩ : ∃ W1, (w0.alloc (.cells #[.string T[i].1, .string T[i].2.1, .slice a' T[i].2.2.length cap'] 88)).drew = W1 := ⟨_, rfl⟩
  have hB1 : Below w0.heap.size w0 W1 := by rw [← hW1]; exact below_drew ((Below.refl _ w0).alloc (Nat.le_refl _) _)
  have hs1 : W1.heap.size = w.heap.size + 2 := by rw [← hW1]; simp [World.drew]; omega
  have hx : W1.heap[w.heap.size + 1]? = some (.cells #[.string T[i].1, .string T[i].2.1, .slice a' T[i].2.2.length cap'] 88 (0, 0)) := by rw [← hW1, ← hs0]; exact heap_new w0 _
  have hBB : Below w.heap.size w W1 := hB0.trans (hB1.mono (by omega))
  have e1 : W1.cell? ⟨w.heap.size + 1, 1, none⟩ = some (.string T[i].2.1) := by rw [Lib.cell_of_heap hx]; rfl
  have e2 : W1.cell? ⟨w.heap.size + 1, 2, none⟩ = some (.slice a' T[i].2.2.length cap') := by rw [Lib.cell_of_heap hx]; rfl
  have hP : Hid _ := And.intro (hZ0.below hB1 hZ0.lt) (And.intro (hL.below hBB) (And.intro e1 e2))
  have hmk' : Hid _ := fun W' (hW' : Below W1.heap.size W1 W') => hmk W' (hBB.trans (hW'.mono hBB.size))
  replace hLp : Hid _ := hLp
  replace hRl : Hid _ := hRl
  replace hBB : Hid _ := hBB
  clear e1 e2 hx hmk hL
  replace hB1 : Hid _ := hB1
  replace hW1 : Hid _ := hW1
  go_enter Try.func59, Try.ntmps59
  go_wp2_with fail
  have hz : (Obj.cells #[Value.int IntKind.i64 0, Value.int IntKind.i64 0, Value.int IntKind.i64 0, Value.int IntKind.i64 0, Value.int IntKind.i64 0, Value.int IntKind.i64 0, Value.int IntKind.i64 0, Value.int IntKind.i64 0, Value.int IntKind.i64 0, Value.int IntKind.i64 0, Value.int IntKind.i64 0, Value.int IntKind.i64 0, Value.int IntKind.i64 0, Value.int IntKind.i64 0, Value.int IntKind.i64 0, Value.int IntKind.i64 0, Value.int IntKind.i64 0] 23) = .cells (prC zeroL) 23 := rfl
  rw [hz, hw0]
  clear hz hw0
  go_region_with (go_at_call 44; refine (hAt _ (by first | exact below_drew hB0 | exact (below_drew hB0).alloc (by simp; omega) _)).mono ?_; rintro e w' ⟨rfl, hww⟩; subst w')
  all_goals
    rw [hW1.out]
    go_wp2_with fail
    refine refStyle_region _ (fun _ _ _ _ _ h => h) _ _ g w.heap.size (w.heap.size + 1) T[i].2.1 T[i].2.2 hLp.out a' cap' R hRl.out W1 hP.out.1 (by omega) (by omega) hP.out.2.1 hmk'.out hP.out.2.2 ?_
    intro w' m hm hb hZ'
    have hfl : (applyL m T[i].2.2).length = 17 := by rw [applyL_length]; exact hRl.out m hm
    have hE : Hid _ := And.intro (hZ'.setRow hfl) (below_setRow (hBB.out.trans (hb.mono hBB.out.size)) (Nat.le_refl w.heap.size) (prC (applyL m T[i].2.2)))
    unfold fr59
    go_wp2_with fail
    refine bodyPost_ret (results_cell_row rfl _ _ w.heap.size 23 _ (0, 0) _ rfl hE.out.1.row Try.underlying23 rfl (info23l hfl)) rfl ?_
    exact ⟨m, hm, rfl, hE.out.2⟩
end Go.Proofs.Ytifkelpgpdgenaa
