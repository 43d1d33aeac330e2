/-
  What is proved here: what Begin and Variant of section answer, and the document's own.
-/
import Derived.Test.YtglgapmjhmeonaaWalkF
namespace Go.Proofs.Ytglgapmjhmeonaa
open Go.RowKit Go.Shelf

def beginI (s : Sec) (last : Int) : Int := if (s.start = 1 ∧ (last + 1) % 2 = 0) ∨ (s.start = 2 ∧ ¬ (last + 1) % 2 = 0) then last + 2 else last + 1
def beginA (s : Sec) (last : Int) : Int := if pageI s last 0 = 0 then beginI s last else 0
def empB (t : Str) : Bool := (ByteArray.toList t).isEmpty
def variantI (s : Sec) (page : Int) (first : Bool) : Int := if first && (!empB s.h0 || !empB s.f0) then 0 else if page % 2 = 0 then 2 else 1
def variantA (s : Sec) (page : Int) (first : Bool) : Int := if pageI s page 1 = 0 then variantI s page first else 0

set_option maxRecDepth 100000 in
set_option maxHeartbeats 1000000 in
theorem begin_any (s : Sec) (hsm : smB s = true) (last : Int) (w : World) : Calls Try.prog 21 #[seV s, .int .i64 last] w fun e w' => e = .returned (.tuple #[.int .i64 (beginA s last), .int .i64 (pageI s last 0)]) ∧ Below w.heap.size w w' := by
  have hB := (Below.refl w.heap.size w).alloc (Nat.le_refl _) (Obj.cells (seC s) 24)
  have hS := SB.new w s
  have hrf : Hid (∀ w, Calls Try.prog 27 #[seV s, .int .i64 last, .int .i64 0] w fun e w' => e = .returned (.int .i64 (pageI s last 0)) ∧ Below w.heap.size w w') := refuse_any s hsm last 0
  clear hsm
  unfold seV
  go_enter Try.func21, Try.ntmps21
  go_wp2_with (refine wpList_load_row rfl 24 _ rfl w.heap.size rfl 24 _ (0, 0) _ hS.row Try.underlying24 rfl (info24 s) ?_)
  refine (hrf.out _).mono ?_
  rintro e w1 ⟨rfl, B1⟩
  have hS1 := hS.below B1 hS.lt
  have D1 := hB.trans (B1.mono hB.size)
  by_cases h0 : pageI s last 0 = 0
  · obtain ⟨hm, hp1, hp2⟩ := may_page h0
    have ha : Hid (beginA s last = beginI s last) := by unfold beginA; rw [if_pos h0]; rfl
    have c8 := hS1.c8
    have h0' : Hid (pageI s last 0 = 0) := h0
    rw [h0]
    have hEv := isEven_any (last + 1)
    clear h0 hm
    by_cases h1 : s.start = 1
    · by_cases h2 : (last + 1) % 2 = 0
      · have hb : Hid (beginI s last = last + 2) := by unfold beginI; rw [if_pos (.inl ⟨h1, h2⟩)]; rfl
        rw [decide_eq_true h2] at hEv
        clear h2
        go_wp2_with (go_at_call 39; refine (hEv _).mono ?_; rintro e w' ⟨rfl, hww⟩; subst w')
        go_ret2
        exact ⟨by rw [ha.out, hb.out, h0'.out]; simp <;> omega, D1⟩
      · have hb : Hid (beginI s last = last + 1) := by unfold beginI; rw [if_neg (by omega)]; rfl
        rw [decide_eq_false h2] at hEv
        clear h2
        go_wp2_with (go_at_call 39; refine (hEv _).mono ?_; rintro e w' ⟨rfl, hww⟩; subst w')
        go_ret2
        exact ⟨by rw [ha.out, hb.out, h0'.out]; rfl, D1⟩
    · by_cases h3 : s.start = 2
      · by_cases h2 : (last + 1) % 2 = 0
        · have hb : Hid (beginI s last = last + 1) := by unfold beginI; rw [if_neg (by omega)]; rfl
          rw [decide_eq_true h2] at hEv
          clear h2
          go_wp2_with (go_at_call 39; refine (hEv _).mono ?_; rintro e w' ⟨rfl, hww⟩; subst w')
          go_ret2
          exact ⟨by rw [ha.out, hb.out, h0'.out]; rfl, D1⟩
        · have hb : Hid (beginI s last = last + 2) := by unfold beginI; rw [if_pos (.inr ⟨h3, h2⟩)]; rfl
          rw [decide_eq_false h2] at hEv
          clear h2
          go_wp2_with (go_at_call 39; refine (hEv _).mono ?_; rintro e w' ⟨rfl, hww⟩; subst w')
          go_ret2
          exact ⟨by rw [ha.out, hb.out, h0'.out]; simp <;> omega, D1⟩
      · have hb : Hid (beginI s last = last + 1) := by unfold beginI; rw [if_neg (by omega)]; rfl
        go_wp2_with fail
        go_ret2
        exact ⟨by rw [ha.out, hb.out, h0'.out]; rfl, D1⟩
  · have ha : Hid (beginA s last = 0) := by unfold beginA; rw [if_neg h0]; rfl
    obtain ⟨E, hE⟩ : ∃ E, pageI s last 0 = E := ⟨_, rfl⟩
    have hE' : Hid (pageI s last 0 = E) := hE
    rw [hE] at h0 ⊢
    clear hE
    go_wp2_with fail
    go_ret2
    exact ⟨by rw [ha.out, hE'.out]; rfl, D1⟩

set_option maxRecDepth 100000 in
set_option maxHeartbeats 1000000 in
theorem variant_any (s : Sec) (hsm : smB s = true) (page : Int) (first : Bool) (w : World) : Calls Try.prog 22 #[seV s, .int .i64 page, .bool first] w fun e w' => e = .returned (.tuple #[.int .i64 (variantA s page first), .int .i64 (pageI s page 1)]) ∧ Below w.heap.size w w' := by
  have hB := (Below.refl w.heap.size w).alloc (Nat.le_refl _) (Obj.cells (seC s) 24)
  have hS := SB.new w s
  have hrf : Hid (∀ w, Calls Try.prog 27 #[seV s, .int .i64 page, .int .i64 1] w fun e w' => e = .returned (.int .i64 (pageI s page 1)) ∧ Below w.heap.size w w') := refuse_any s hsm page 1
  clear hsm
  unfold seV
  go_enter Try.func22, Try.ntmps22
  go_wp2_with (refine wpList_load_row rfl 24 _ rfl w.heap.size rfl 24 _ (0, 0) _ hS.row Try.underlying24 rfl (info24 s) ?_)
  refine (hrf.out _).mono ?_
  rintro e w1 ⟨rfl, B1⟩
  have hS1 := hS.below B1 hS.lt
  have D1 := hB.trans (B1.mono hB.size)
  by_cases h0 : pageI s page 1 = 0
  · have ha : Hid (variantA s page first = variantI s page first) := by unfold variantA; rw [if_pos h0]; rfl
    have c11 : w1.cell? ⟨w.heap.size, 11, none⟩ = some (.string s.h0) := hS1.cell rfl
    have c14 : w1.cell? ⟨w.heap.size, 14, none⟩ = some (.string s.f0) := hS1.cell rfl
    have h0' : Hid (pageI s page 1 = 0) := h0
    rw [h0]
    have hEv := isEven_any page
    clear h0
    have hv1 : Hid (first = true → empB s.h0 = false ∨ empB s.f0 = false → variantI s page first = 0) := fun h1 h2 => by
      unfold variantI; rw [h1]; rcases h2 with h2 | h2 <;> simp [h2]
    have hv2 : Hid (first = false ∨ (empB s.h0 = true ∧ empB s.f0 = true) → variantI s page first = if page % 2 = 0 then 2 else 1) := fun h => by
      unfold variantI
      rcases h with h | ⟨h, h'⟩
      · simp [h]
      · simp [h, h']
    have hl0 : empB s.h0 = (ByteArray.toList s.h0).isEmpty := rfl
    have hl1 : empB s.f0 = (ByteArray.toList s.f0).isEmpty := rfl
    by_cases h2 : page % 2 = 0
    · rw [decide_eq_true h2] at hEv
      rw [if_pos h2] at hv2
      clear h2
      cases hf : first
      · have hb : Hid (variantI s page first = 2) := hv2.out (.inl hf)
        clear hv1 hv2 hf
        go_wp2_with (go_at_call 39; refine (hEv _).mono ?_; rintro e w' ⟨rfl, hww⟩; subst w')
        go_ret2
        exact ⟨by rw [ha.out, hb.out, h0'.out]; rfl, D1⟩
      · cases he0 : empB s.h0
        · have hb : Hid (variantI s page first = 0) := hv1.out hf (.inl he0)
          rw [hl0] at he0
          clear hv1 hv2 hf hl0 hl1
          go_wp2_with fail
          go_ret2
          exact ⟨by rw [ha.out, hb.out, h0'.out]; rfl, D1⟩
        · cases he1 : empB s.f0
          · have hb : Hid (variantI s page first = 0) := hv1.out hf (.inr he1)
            rw [hl0] at he0
            rw [hl1] at he1
            clear hv1 hv2 hf hl0 hl1
            go_wp2_with fail
            go_ret2
            exact ⟨by rw [ha.out, hb.out, h0'.out]; rfl, D1⟩
          · have hb : Hid (variantI s page first = 2) := hv2.out (.inr ⟨he0, he1⟩)
            rw [hl0] at he0
            rw [hl1] at he1
            clear hv1 hv2 hf hl0 hl1
            go_wp2_with (go_at_call 39; refine (hEv _).mono ?_; rintro e w' ⟨rfl, hww⟩; subst w')
            go_ret2
            exact ⟨by rw [ha.out, hb.out, h0'.out]; rfl, D1⟩
    · rw [decide_eq_false h2] at hEv
      rw [if_neg h2] at hv2
      clear h2
      cases hf : first
      · have hb : Hid (variantI s page first = 1) := hv2.out (.inl hf)
        clear hv1 hv2 hf
        go_wp2_with (go_at_call 39; refine (hEv _).mono ?_; rintro e w' ⟨rfl, hww⟩; subst w')
        go_ret2
        exact ⟨by rw [ha.out, hb.out, h0'.out]; rfl, D1⟩
      · cases he0 : empB s.h0
        · have hb : Hid (variantI s page first = 0) := hv1.out hf (.inl he0)
          rw [hl0] at he0
          clear hv1 hv2 hf hl0 hl1
          go_wp2_with fail
          go_ret2
          exact ⟨by rw [ha.out, hb.out, h0'.out]; rfl, D1⟩
        · cases he1 : empB s.f0
          · have hb : Hid (variantI s page first = 0) := hv1.out hf (.inr he1)
            rw [hl0] at he0
            rw [hl1] at he1
            clear hv1 hv2 hf hl0 hl1
            go_wp2_with fail
            go_ret2
            exact ⟨by rw [ha.out, hb.out, h0'.out]; rfl, D1⟩
          · have hb : Hid (variantI s page first = 1) := hv2.out (.inr ⟨he0, he1⟩)
            rw [hl0] at he0
            rw [hl1] at he1
            clear hv1 hv2 hf hl0 hl1
            go_wp2_with (go_at_call 39; refine (hEv _).mono ?_; rintro e w' ⟨rfl, hww⟩; subst w')
            go_ret2
            exact ⟨by rw [ha.out, hb.out, h0'.out]; rfl, D1⟩
  · have ha : Hid (variantA s page first = 0) := by unfold variantA; rw [if_neg h0]; rfl
    obtain ⟨E, hE⟩ : ∃ E, pageI s page 1 = E := ⟨_, rfl⟩
    have hE' : Hid (pageI s page 1 = E) := hE
    rw [hE] at h0 ⊢
    clear hE
    go_wp2_with fail
    go_ret2
    exact ⟨by rw [ha.out, hE'.out]; rfl, D1⟩
end Go.Proofs.Ytglgapmjhmeonaa
