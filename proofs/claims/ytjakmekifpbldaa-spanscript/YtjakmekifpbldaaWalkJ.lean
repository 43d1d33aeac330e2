/-
  What is proved here: what Insert, Delete, Slice and holds answer of looks.
-/
import Derived.Test.YtjakmekifpbldaaWalkI
namespace Go.Proofs.Ytjakmekifpbldaa
open Go.RowKit Go.Shelf

/-- Nothing that was there has changed but one block. -/
def Only (t : Nat) (w w' : World) : Prop := w.grownBy w' (some t)
theorem only_of_below {t : Nat} {w w' : World} (h : Below w.heap.size w w') : Only t w w' := ⟨h.1, h.2, h.3, h.4, fun k hk _ => h.5 k hk⟩
theorem Only.trans {t : Nat} {w w1 w2 : World} (h : Only t w w1) (h2 : Only t w1 w2) : Only t w w2 :=
  ⟨h2.os.trans h.os, h2.tape.trans h.tape, h2.output.trans h.output, Nat.le_trans h.size h2.size, fun k hk hne => (h2.block k (Nat.lt_of_lt_of_le hk h.size) hne).trans (h.block k hk hne)⟩
/-- What was made behind a world may turn. -/
theorem Only.below {t n : Nat} {w w1 w2 : World} (hb : Below n w w1) (hn : n ≤ t) (hnw : n ≤ w.heap.size) (h : Only t w1 w2) : Below n w w2 :=
  ⟨h.os.trans hb.1, h.tape.trans hb.2, h.output.trans hb.3, Nat.le_trans hb.size h.size, fun k hk => (h.block k (by have := hb.size; omega) (by simp; omega)).trans (hb.block k hk)⟩

/-- New runs are stored. -/
theorem LooksAt.store {t : Nat} {sv u : Value} {L L' : List Ch} {m : Ch} {w w1 : World} (h : LooksAt t sv L m w) (hb : Below w.heap.size w w1) (hr : RowAt w1 w.heap.size 72 u (ends 0 (rle L'))) (hl : L'.length ≤ 4096) :
    LooksAt t u L' m (w1.setCell ⟨t, 1, none⟩ u) ∧ Only t w (w1.setCell ⟨t, 1, none⟩ u) := by
  have ho := (h.below hb).obj
  have hs := heap_setCell_same w1 t 1 _ 46 u ho
  refine ⟨⟨hs, ?_, hl⟩, (only_of_below hb).trans ⟨rfl, rfl, rfl, by simp, fun k _ hne => Below.heap_setCell _ _ _ k (by intro e; exact hne (by rw [e]))⟩⟩
  have hj := joined hr
  refine ⟨hj.1, ?_⟩
  rcases hj.2 with hn | ⟨g, cap, cur, rfl, hb', hg, r⟩
  · exact .inl hn
  · refine .inr ⟨g, cap, cur, rfl, hb', ?_, r⟩
    rw [Below.heap_setCell _ _ _ g (by
      intro e
      have e' : g = t := e
      have := (hr.out.lt g rfl).1
      have := h.lt
      omega)]
    exact hg

theorem LooksAt.only {t t2 : Nat} {sv : Value} {L : List Ch} {m : Ch} {w w' : World} (h : LooksAt t sv L m w) (ho : Only t2 w w') (hne : t ≠ t2) (h2 : ∀ g, sv.ownBlock = some g → g ≠ t2) : LooksAt t sv L m w' := by
  refine ⟨(ho.block t h.lt (by simp; exact hne)).trans h.obj, ⟨h.row.1, ?_⟩, h.few⟩
  rcases h.row.2 with hn | ⟨g, cap, cur, rfl, hb', hg, r⟩
  · exact .inl hn
  · exact .inr ⟨g, cap, cur, rfl, hb', (ho.block g (Array.getElem?_eq_some_iff.1 hg).1 (by simp; exact h2 g rfl)).trans hg, r⟩

/-- What Insert makes. -/
def insL (L : List Ch) (m : Ch) (p n : Nat) : List Ch := sub L 0 p ++ List.replicate n (aheadC L m p) ++ sub L p L.length
theorem insL_length (L : List Ch) (m : Ch) {p : Nat} (n : Nat) (hp : p ≤ L.length) : (insL L m p n).length = L.length + n := by simp [insL, sub_length, hp]; omega
theorem insL_spans (L : List Ch) (m : Ch) (p n : Nat) : expand [rle (sub L 0 p), bytesS n (aheadC L m p), rle (sub L p L.length)].flatten = insL L m p n := by
  simp [expand_append, rle_expand, bytesS_expand, insL]
theorem full3 (a b c : List Sp) (h1 : full a) (h2 : full b) (h3 : full c) : full [a, b, c].flatten := by
  simp only [List.flatten_cons, List.flatten_nil, List.append_nil]
  exact full_append _ _ h1 (full_append _ _ h2 h3)

set_option maxRecDepth 100000 in
set_option maxHeartbeats 4000000 in
theorem insert_ok (t : Nat) (sv : Value) (L : List Ch) (m : Ch) (p n : Nat) (hp : p ≤ L.length) (hn : L.length + n ≤ 4096) (w : World) (h : LooksAt t sv L m w) :
    Calls Try.prog 21 #[.pointer (some ⟨t, 0, none⟩), .int .i64 p, .int .i64 n] w fun e w' => ∃ sv', e = .returned (.int .i64 0) ∧ LooksAt t sv' (insL L m p n) m w' ∧ Only t w w' ∧ ∀ g, sv'.ownBlock = some g → w.heap.size ≤ g := by
  have hfew := h.few
  have hlt := h.lt
  have hmade := made_yes t w h.cells.1
  have hlen := len_looks t sv L m w h
  have hp0 : Calls Try.prog 43 #[.pointer (some ⟨t, 0, none⟩), .int .i64 0, .int .i64 p] w _ := part_any t sv L m 0 p (Nat.zero_le _) hp w h
  have hto : tot [rle (sub L 0 p), bytesS n (aheadC L m p), rle (sub L p L.length)].flatten ≤ 4096 := by rw [← tot_expand, insL_spans, insL_length L m n hp]; exact hn
  have hjo := fun v W => join_any v _ (full3 _ _ _ (rle_full (sub L 0 p)) (bytesS_full n (aheadC L m p)) (rle_full (sub L p L.length))) hto (by simp) W
  rw [insL_spans] at hjo
  have hjo' : Hid _ := hjo
  have hil := insL_length L m n hp
  clear hjo hto
  have ha := fun W hW => ahead_any t sv L m p hp W hW
  have hbo := bytesOf_any n (aheadC L m p)
  have hpe := fun W hW => part_any t sv L m p L.length hp (Nat.le_refl _) W hW
  unfold chV at ha hbo
  have ha' : Hid _ := ha
  have hpe' : Hid _ := hpe
  have hbo' : Hid _ := hbo
  clear ha hpe hbo
  go_enter Try.func21, Try.ntmps21
  go_wp2_with (first
    | (go_at_call 34; refine hmade.mono ?_; rintro e w' ⟨rfl, hww⟩; subst w')
    | (go_at_call 24; refine hlen.mono ?_; rintro e w' ⟨rfl, hww⟩; subst w'))
  refine hp0.mono ?_
  rintro e w1 ⟨v0, rfl, r0, B1⟩
  replace r0 := rowAt_of r0
  obtain ⟨a0, cp0, rfl⟩ := r0.form
  have h1 := h.below B1
  go_wp2_with fail
  refine (ha'.out w1 h1).mono ?_
  rintro e w2 ⟨rfl, B2⟩
  replace r0 := r0.below B2
  have h2 := h1.below B2
  go_wp2_with fail
  refine (hbo'.out w2).mono ?_
  rintro e w3 ⟨v1, rfl, r1, B3⟩
  replace r1 := rowAt_of r1
  obtain ⟨a1, cp1, rfl⟩ := r1.form
  replace r0 := r0.below B3
  have h3 := h2.below B3
  go_wp2_with fail
  refine (hpe'.out w3 h3).mono ?_
  rintro e w4 ⟨v2, rfl, r2, B4⟩
  replace r2 := rowAt_of r2
  obtain ⟨a2, cp2, rfl⟩ := r2.form
  replace r0 := r0.below B4
  replace r1 := r1.below B4
  go_wp2_with fail
  refine (hjo'.out _ _ (by exact lists3 r0 r1 r2)).mono ?_
  rintro e w5 ⟨v3, rfl, r3, B5⟩
  obtain ⟨a3, cp3, rfl⟩ := r3.form
  have C2 := B1.trans (B2.mono B1.size)
  have C3 := C2.trans (B3.mono C2.size)
  have C4 := C3.trans (B4.mono C3.size)
  have C4' := C4.alloc C4.size (Obj.cells #[.slice a0 (rle (sub L 0 p)).length cp0, .slice a1 (bytesS n (aheadC L m p)).length cp1, .slice a2 (rle (sub L p L.length)).length cp2] 40)
  have C5 := C4'.trans (B5.mono C4'.size)
  have h5 := h.below C5
  have c51 := h5.cells.2.1
  have f51 := Lib.frozen_of_heap h5.obj 1
  have r3' : RowAt w5 w.heap.size 72 _ _ := r3.base C4'.size
  obtain ⟨k1, k2⟩ := h.store C5 r3' (by rw [hil]; exact hn)
  have k3 := fun g hg => (r3'.out.lt g hg).1
  have K : Hid _ := And.intro k1 (And.intro k2 k3)
  clear k1 k2 k3 r3 r3' r0 r1 r2
  go_wp2_with fail
  go_ret
  exact ⟨_, rfl, K.out.1, K.out.2.1, K.out.2.2⟩
end Go.Proofs.Ytjakmekifpbldaa
