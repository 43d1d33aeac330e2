/-
  What is proved here: what Delete answers of looks.
-/
import Derived.Test.YtjakmekifpbldaaWalkK
namespace Go.Proofs.Ytjakmekifpbldaa
open Go.RowKit Go.Shelf

set_option maxRecDepth 100000 in
set_option maxHeartbeats 4000000 in
theorem delete_ok (t : Nat) (sv : Value) (L : List Ch) (m : Ch) (p n : Nat) (hp : p + n ≤ L.length) (w : World) (h : LooksAt t sv L m w) :
    Calls Try.prog 22 #[.pointer (some ⟨t, 0, none⟩), .int .i64 p, .int .i64 n] w fun e w' => ∃ sv', e = .returned (.int .i64 0) ∧ LooksAt t sv' (delL L p n) (delM L m n) w' ∧ Only t w w' ∧ ∀ g, sv'.ownBlock = some g → w.heap.size ≤ g := by
  have hfew := h.few
  have hmade := made_yes t w h.cells.1
  have hlen := len_looks t sv L m w h
  have hho := holds_any t sv L m p n (by omega) w h
  have : (decide (0 ≤ (p : Int)) && decide (0 ≤ (n : Int)) && decide ((n : Int) ≤ L.length - p)) = true := by simp; omega
  rw [this] at hho
  clear this
  have hto : tot [rle (sub L 0 p), rle (sub L (p + n) L.length)].flatten ≤ 4096 := by rw [← tot_expand, delL_spans, delL_length L hp]; omega
  have hjo := fun v W => join_any v _ (full2 _ _ (rle_full (sub L 0 p)) (rle_full (sub L (p + n) L.length))) hto (by simp) W
  rw [delL_spans] at hjo
  have hjo' : Hid _ := hjo
  have hil := delL_length L hp
  clear hjo hto
  have ha := ahead_any t sv L m L.length (Nat.le_refl _) w h
  unfold chV at ha
  have hp0 : ∀ m' W, LooksAt t sv L m' W → Calls Try.prog 43 #[.pointer (some ⟨t, 0, none⟩), .int .i64 0, .int .i64 p] W fun e w' => ∃ v, e = .returned v ∧ w'.ownsRow W.heap.size 61 4 v (rle (sub L 0 p)).length (rowOf (rle (sub L 0 p))) ∧ Below W.heap.size W w' := fun m' W hW => part_any t sv L m' 0 p (Nat.zero_le _) (by omega) W hW
  have hpe : ∀ m' W, LooksAt t sv L m' W → Calls Try.prog 43 #[.pointer (some ⟨t, 0, none⟩), .int .i64 ((p : Int) + (n : Int)), .int .i64 L.length] W fun e w' => ∃ v, e = .returned v ∧ w'.ownsRow W.heap.size 61 4 v (rle (sub L (p + n) L.length)).length (rowOf (rle (sub L (p + n) L.length))) ∧ Below W.heap.size W w' := fun m' W hW => by
    have := part_any t sv L m' (p + n) L.length (by omega) (Nat.le_refl _) W hW
    rwa [Int.natCast_add] at this
  have hp0' : Hid (∀ m' W, LooksAt t sv L m' W → _) := hp0
  have hpe' : Hid _ := hpe
  clear hpe hp0
  by_cases hall : n = L.length
  · have hdm : delM L m n = aheadC L m L.length := if_pos hall
    rw [hdm]
    clear hdm
    subst hall
    generalize aheadC L m L.length = c at *
    go_enter Try.func22, Try.ntmps22
    go_wp2_with (first
      | (go_at_call 34; refine hmade.mono ?_; rintro e w' ⟨rfl, hww⟩; subst w')
      | (go_at_call 45; refine hho.mono ?_; rintro e w' ⟨rfl, hww⟩; subst w')
      | (go_at_call 24; refine hlen.mono ?_; rintro e w' ⟨rfl, hww⟩; subst w'))
    refine ha.mono ?_
    rintro e wa ⟨rfl, Ba⟩
    have hA := h.below Ba
    obtain ⟨_, _, a2, a3, a4⟩ := hA.cells
    have f2 := Lib.frozen_of_heap hA.obj 2
    have f3 := Lib.frozen_of_heap hA.obj 3
    have f4 := Lib.frozen_of_heap hA.obj 4
    obtain ⟨hM, hO⟩ := h.mind (c := c) Ba
    have hM' : Hid _ := hM
    have hO' : Hid _ := hO
    clear hM hO
    go_wp2_with fail
    obtain ⟨W0, hW0⟩ : ∃ W0, ((wa.setCell ⟨t, 2, none⟩ (.int .i64 c.s)).setCell ⟨t, 3, none⟩ (.int .i64 c.t)).setCell ⟨t, 4, none⟩ (.int .i64 c.k) = W0 := ⟨_, rfl⟩
    have hM0 : LooksAt t sv L c W0 := by rw [← hW0]; exact hM'.out
    have hO0 : Only t w W0 := by rw [← hW0]; exact hO'.out
    clear hM' hO'
    rw [hW0]
    clear hW0
    refine (hp0'.out c W0 hM0).mono ?_
    rintro e w1 ⟨v0, rfl, r0, B1⟩
    replace r0 := rowAt_of r0
    obtain ⟨a0, cp0, rfl⟩ := r0.form
    have h1 := hM0.below B1
    go_wp2_with fail
    refine (hpe'.out c w1 h1).mono ?_
    rintro e w4 ⟨v2, rfl, r2, B4⟩
    replace r2 := rowAt_of r2
    obtain ⟨a2, cp2, rfl⟩ := r2.form
    replace r0 := r0.below B4
    go_wp2_with fail
    refine (hjo'.out _ _ (by exact lists2 r0 r2)).mono ?_
    rintro e w5 ⟨v3, rfl, r3, B5⟩
    obtain ⟨a3, cp3, rfl⟩ := r3.form
    have C4 := B1.trans (B4.mono B1.size)
    have C4' := C4.alloc C4.size (Obj.cells #[.slice a0 (rle (sub L 0 p)).length cp0, .slice a2 (rle (sub L (p + L.length) L.length)).length cp2] 40)
    have C5 := C4'.trans (B5.mono C4'.size)
    have h5 := hM0.below C5
    have c51 := h5.cells.2.1
    have f51 := Lib.frozen_of_heap h5.obj 1
    have r3' : RowAt w5 W0.heap.size 72 _ _ := r3.base C4'.size
    obtain ⟨k1, k2⟩ := hM0.store C5 r3' (by rw [hil]; omega)
    have k3 := fun g hg => (r3'.out.lt g hg).1
    have K : Hid _ := And.intro k1 (And.intro k2 k3)
    clear k1 k2 k3 r3 r3' r0 r2
    go_wp2_with fail
    go_ret
    exact ⟨_, rfl, K.out.1, hO0.trans K.out.2.1, fun g hg => Nat.le_trans hO0.size (K.out.2.2 g hg)⟩
  · have hdm : delM L m n = m := if_neg hall
    have hE : ¬ (n : Int) = L.length := by omega
    rw [hdm]
    go_enter Try.func22, Try.ntmps22
    go_wp2_with (first
      | (go_at_call 34; refine hmade.mono ?_; rintro e w' ⟨rfl, hww⟩; subst w')
      | (go_at_call 45; refine hho.mono ?_; rintro e w' ⟨rfl, hww⟩; subst w')
      | (go_at_call 24; refine hlen.mono ?_; rintro e w' ⟨rfl, hww⟩; subst w'))
    refine (hp0'.out m w h).mono ?_
    rintro e w1 ⟨v0, rfl, r0, B1⟩
    replace r0 := rowAt_of r0
    obtain ⟨a0, cp0, rfl⟩ := r0.form
    have h1 := h.below B1
    go_wp2_with fail
    refine (hpe'.out m w1 h1).mono ?_
    rintro e w4 ⟨v2, rfl, r2, B4⟩
    replace r2 := rowAt_of r2
    obtain ⟨a2, cp2, rfl⟩ := r2.form
    replace r0 := r0.below B4
    go_wp2_with fail
    refine (hjo'.out _ _ (by exact lists2 r0 r2)).mono ?_
    rintro e w5 ⟨v3, rfl, r3, B5⟩
    obtain ⟨a3, cp3, rfl⟩ := r3.form
    have C4 := B1.trans (B4.mono B1.size)
    have C4' := C4.alloc C4.size (Obj.cells #[.slice a0 (rle (sub L 0 p)).length cp0, .slice a2 (rle (sub L (p + n) L.length)).length cp2] 40)
    have C5 := C4'.trans (B5.mono C4'.size)
    have h5 := h.below C5
    have c51 := h5.cells.2.1
    have f51 := Lib.frozen_of_heap h5.obj 1
    have r3' : RowAt w5 w.heap.size 72 _ _ := r3.base C4'.size
    obtain ⟨k1, k2⟩ := h.store C5 r3' (by rw [hil]; omega)
    have k3 := fun g hg => (r3'.out.lt g hg).1
    have K : Hid _ := And.intro k1 (And.intro k2 k3)
    clear k1 k2 k3 r3 r3' r0 r2
    go_wp2_with fail
    go_ret
    exact ⟨_, rfl, K.out.1, K.out.2.1, K.out.2.2⟩
end Go.Proofs.Ytjakmekifpbldaa
