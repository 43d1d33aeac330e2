/-
  What is proved here: what Set answers of looks.
-/
import Derived.Test.YtjakmekifpbldaaWalkL
namespace Go.Proofs.Ytjakmekifpbldaa
open Go.RowKit Go.Shelf

/-- What Set makes. -/
def setL (L : List Ch) (p n : Nat) (c : Ch) : List Ch := sub L 0 p ++ List.replicate n c ++ sub L (p + n) L.length
theorem setL_length (L : List Ch) {p n : Nat} (c : Ch) (h : p + n ≤ L.length) : (setL L p n c).length = L.length := by
  rw [setL, List.length_append, List.length_append, sub_length L (by omega), sub_length L (Nat.le_refl _), List.length_replicate]; omega
theorem setL_spans (L : List Ch) (p n : Nat) (c : Ch) : expand [rle (sub L 0 p), bytesS n c, rle (sub L (p + n) L.length)].flatten = setL L p n c := by
  simp [expand_append, rle_expand, bytesS_expand, setL]

set_option maxHeartbeats 1000000 in
theorem set_range (t : Nat) (sv : Value) (L : List Ch) (m : Ch) (a n : Int) (c : Ch) (ha : a ≤ 9223372036854775807) (hx : ¬ (0 ≤ a ∧ 0 ≤ n ∧ a + n ≤ L.length)) (w : World) (h : LooksAt t sv L m w) :
    Calls Try.prog 23 #[.pointer (some ⟨t, 0, none⟩), .int .i64 a, .int .i64 n, chV c] w fun e w' => e = .returned (.int .i64 5) ∧ Below w.heap.size w w' := by
  have hB := (Below.refl w.heap.size w).alloc (Nat.le_refl _) (.cells #[.int .i64 c.s, .int .i64 c.t, .int .i64 c.k] 23)
  have hmade := made_yes t _ (h.below hB).cells.1
  have hho := holds_any t sv L m a n ha _ (h.below hB)
  have : (decide (0 ≤ a) && decide (0 ≤ n) && decide (n ≤ L.length - a)) = false := by simp; omega
  rw [this] at hho
  clear h this
  unfold chV
  go_enter Try.func23, Try.ntmps23
  go_wp2_with (first
    | (go_at_call 34; refine hmade.mono ?_; rintro e w' ⟨rfl, hww⟩; subst w')
    | (go_at_call 45; refine hho.mono ?_; rintro e w' ⟨rfl, hww⟩; subst w'))
  go_ret
  exact ⟨rfl, hB⟩

set_option maxHeartbeats 1000000 in
theorem set_bad (t : Nat) (sv : Value) (L : List Ch) (m : Ch) (p n : Nat) (c : Ch) (hc : mayC c = false) (hp : p + n ≤ L.length) (w : World) (h : LooksAt t sv L m w) :
    Calls Try.prog 23 #[.pointer (some ⟨t, 0, none⟩), .int .i64 p, .int .i64 n, chV c] w fun e w' => e = .returned (.int .i64 2) ∧ Below w.heap.size w w' := by
  have hfew := h.few
  have hB := (Below.refl w.heap.size w).alloc (Nat.le_refl _) (.cells #[.int .i64 c.s, .int .i64 c.t, .int .i64 c.k] 23)
  have hmade := made_yes t _ (h.below hB).cells.1
  have hho := holds_any t sv L m p n (by omega) _ (h.below hB)
  have : (decide (0 ≤ (p : Int)) && decide (0 ≤ (n : Int)) && decide ((n : Int) ≤ L.length - p)) = true := by simp; omega
  rw [this] at hho
  have hmay := may_any c
  rw [hc] at hmay
  clear h this
  unfold chV at *
  go_enter Try.func23, Try.ntmps23
  go_wp2_with (first
    | (go_at_call 34; refine hmade.mono ?_; rintro e w' ⟨rfl, hww⟩; subst w')
    | (go_at_call 45; refine hho.mono ?_; rintro e w' ⟨rfl, hww⟩; subst w')
    | (go_at_call 10; refine (hmay _).mono ?_; rintro e w' ⟨rfl, hb'⟩))
  go_ret
  exact ⟨rfl, hB.trans (hb'.mono hB.size)⟩

theorem LooksAt.same {t : Nat} {sv : Value} {L : List Ch} {m : Ch} {W W' : World} (h : LooksAt t sv L m W) (he : W'.heap = W.heap) : LooksAt t sv L m W' := by
  refine ⟨by rw [he]; exact h.obj, ?_, h.few⟩
  have := h.row
  unfold World.ownsRow at this ⊢
  rw [he]
  exact this

set_option maxRecDepth 100000 in
set_option maxHeartbeats 8000000 in
theorem set_ok (t : Nat) (sv : Value) (L : List Ch) (m : Ch) (p n : Nat) (c : Ch) (hc : mayC c = true) (hp : p + n ≤ L.length) (w : World) (h : LooksAt t sv L m w) :
    Calls Try.prog 23 #[.pointer (some ⟨t, 0, none⟩), .int .i64 p, .int .i64 n, chV c] w fun e w' => ∃ sv', e = .returned (.int .i64 0) ∧ LooksAt t sv' (setL L p n c) m w' ∧ Only t w w' ∧ ∀ g, sv'.ownBlock = some g → w.heap.size ≤ g := by
  have hfew := h.few
  have hB := (Below.refl w.heap.size w).alloc (Nat.le_refl _) (.cells #[.int .i64 c.s, .int .i64 c.t, .int .i64 c.k] 23)
  have hmade := made_yes t _ (h.below hB).cells.1
  have hho := holds_any t sv L m p n (by omega) _ (h.below hB)
  have : (decide (0 ≤ (p : Int)) && decide (0 ≤ (n : Int)) && decide ((n : Int) ≤ L.length - p)) = true := by simp; omega
  rw [this] at hho
  clear this
  have hmay := may_any c
  rw [hc] at hmay
  have hto : tot [rle (sub L 0 p), bytesS n c, rle (sub L (p + n) L.length)].flatten ≤ 4096 := by rw [← tot_expand, setL_spans, setL_length L c hp]; exact hfew
  have hjo := fun v W => join_any v _ (full3 _ _ _ (rle_full (sub L 0 p)) (bytesS_full n c) (rle_full (sub L (p + n) L.length))) hto (by simp) W
  rw [setL_spans] at hjo
  have hjo' : Hid _ := hjo
  have hil := setL_length L c hp
  clear hjo hto
  have hbo := bytesOf_any n c
  have hp0 : ∀ W, LooksAt t sv L m W → Calls Try.prog 43 #[.pointer (some ⟨t, 0, none⟩), .int .i64 0, .int .i64 p] W fun e w' => ∃ v, e = .returned v ∧ w'.ownsRow W.heap.size 61 4 v (rle (sub L 0 p)).length (rowOf (rle (sub L 0 p))) ∧ Below W.heap.size W w' := fun W hW => part_any t sv L m 0 p (Nat.zero_le _) (by omega) W hW
  have hpe : ∀ W, LooksAt t sv L m W → Calls Try.prog 43 #[.pointer (some ⟨t, 0, none⟩), .int .i64 (IntKind.i64.wrap ((p : Int) + (n : Int))), .int .i64 L.length] W fun e w' => ∃ v, e = .returned v ∧ w'.ownsRow W.heap.size 61 4 v (rle (sub L (p + n) L.length)).length (rowOf (rle (sub L (p + n) L.length))) ∧ Below W.heap.size W w' := fun W hW => by
    have := part_any t sv L m (p + n) L.length (by omega) (Nat.le_refl _) W hW
    have he : IntKind.i64.wrap ((p : Int) + (n : Int)) = ((p + n : Nat) : Int) := by rw [IntKind.wrap_i64]; omega
    rw [he]; exact this
  have hln : ∀ W, LooksAt t sv L m W → Calls Try.prog 24 #[.pointer (some ⟨t, 0, none⟩)] W fun e w' => e = .returned (.int .i64 L.length) ∧ w' = W := fun W hW => len_looks t sv L m W hW
  unfold chV at *
  have hbo' : Hid _ := hbo
  have hp0' : Hid _ := hp0
  have hpe' : Hid _ := hpe
  have hln' : Hid _ := hln
  clear hbo hp0 hpe hln
  go_enter Try.func23, Try.ntmps23
  go_wp2_with (first
    | (go_at_call 34; refine hmade.mono ?_; rintro e w' ⟨rfl, hww⟩; subst w')
    | (go_at_call 45; refine hho.mono ?_; rintro e w' ⟨rfl, hww⟩; subst w')
    | (go_at_call 10; refine (hmay _).mono ?_; rintro e w0 ⟨rfl, hb0⟩))
  obtain ⟨B0, xB, x0, x1, x2⟩ := box_after hb0
  have h0 := h.below B0
  clear hb0 hmay hmade hho hB
  go_region_with (first
    | (go_at_call 43; have _q := r1; refine (hpe'.out _ (by exact h2.same rfl)).mono ?_; rintro e w3 ⟨v2, rfl, r2, hb3⟩; replace r2 := rowAt_of r2; obtain ⟨a2, cp2, rfl⟩ := r2.form; have B3 : Below w2.heap.size w2 w3 := (by exact ⟨hb3.1, hb3.2, hb3.3, hb3.4, hb3.5⟩); clear hb3; replace r0 := r0.below B3; replace r1 := r1.below B3)
    | (go_at_call 43; refine (hp0'.out _ (by exact h0.same rfl)).mono ?_; rintro e w1 ⟨v0, rfl, r0, hb1⟩; replace r0 := rowAt_of r0; obtain ⟨a0, cp0, rfl⟩ := r0.form; have B1 : Below w0.heap.size w0 w1 := (by exact ⟨hb1.1, hb1.2, hb1.3, hb1.4, hb1.5⟩); clear hb1; have h1 := h0.below B1; obtain ⟨yB, y0, y1, y2⟩ := box_step xB x0 x1 x2 B1)
    | (go_at_call 32; refine (hbo'.out _).mono ?_; rintro e w2 ⟨v1, rfl, r1, hb2⟩; replace r1 := rowAt_of r1; obtain ⟨a1, cp1, rfl⟩ := r1.form; have B2 : Below w1.heap.size w1 w2 := (by exact ⟨hb2.1, hb2.2, hb2.3, hb2.4, hb2.5⟩); clear hb2; have h2 := h1.below B2; replace r0 := r0.below B2)
    | (go_at_call 24; refine (hln'.out _ (by exact h2.same rfl)).mono ?_; rintro e w' ⟨rfl, hww⟩; subst w')
    | (go_at_call 31; refine (hjo'.out _ _ (by exact lists3 r0 r1 r2)).mono ?_; rintro e w5 ⟨v3, rfl, r3, hb5⟩; obtain ⟨a3, cp3, rfl⟩ := r3.form; have B5 : Below (w3.alloc (Obj.cells #[.slice a0 (rle (sub L 0 p)).length cp0, .slice a1 (bytesS n c).length cp1, .slice a2 (rle (sub L (p + n) L.length)).length cp2] 40)).heap.size (w3.alloc (Obj.cells #[.slice a0 (rle (sub L 0 p)).length cp0, .slice a1 (bytesS n c).length cp1, .slice a2 (rle (sub L (p + n) L.length)).length cp2] 40)) w5 := (by exact ⟨hb5.1, hb5.2, hb5.3, hb5.4, hb5.5⟩); clear hb5; have h5 := ((h2.below B3).below ((Below.refl w3.heap.size w3).alloc (Nat.le_refl _) (Obj.cells #[.slice a0 (rle (sub L 0 p)).length cp0, .slice a1 (bytesS n c).length cp1, .slice a2 (rle (sub L (p + n) L.length)).length cp2] 40))).below B5; have c51 := h5.cells.2.1; have f51 := Lib.frozen_of_heap h5.obj 1))
  all_goals
    go_wp2_with fail
    go_ret
    have C1 := B0.trans (B1.mono B0.size)
    have C2 := C1.trans (B2.mono C1.size)
    have C3 := C2.trans (B3.mono C2.size)
    have C4 := C3.alloc C3.size (Obj.cells #[.slice a0 (rle (sub L 0 p)).length cp0, .slice a1 (bytesS n c).length cp1, .slice a2 (rle (sub L (p + n) L.length)).length cp2] 40)
    have C5 := C4.trans (B5.mono C4.size)
    have r3' : RowAt w5 w.heap.size 72 _ _ := r3.base (by exact C4.size)
    obtain ⟨k1, k2⟩ := h.store C5 r3' (by rw [hil]; exact hfew)
    exact ⟨_, rfl, k1, k2, fun g hg => (r3'.out.lt g hg).1⟩
end Go.Proofs.Ytjakmekifpbldaa
