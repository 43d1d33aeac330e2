/-
  What is proved here: what the document's own Page, Begin and Variant answer.
-/
import Derived.Test.YtglgapmjhmeonaaWalkI
namespace Go.Proofs.Ytglgapmjhmeonaa
open Go.RowKit Go.Shelf

set_option maxRecDepth 100000 in
set_option maxHeartbeats 1000000 in
theorem rpage_any (s : Sec) (hsm : smB s = true) (page least : Int) (w : World) : Calls Try.prog 12 #[seV s, .int .i64 page, .int .i64 least] w fun e w' => e = .returned (.int .i64 (pageI s page least)) ∧ Below w.heap.size w w' := by
  have hB := (Below.refl w.heap.size w).alloc (Nat.le_refl _) (Obj.cells (seC s) 24)
  have hP := SB.new w s
  have hch : Hid (∀ w, Calls Try.prog 14 #[seV s] w fun e w' => e = .returned (.int .i64 (checkI s)) ∧ Below w.heap.size w w') := rcheck_any s hsm
  clear hsm
  unfold seV
  go_enter Try.func12, Try.ntmps12
  go_wp2_with (refine wpList_load_row rfl 24 _ rfl w.heap.size rfl 24 _ (0, 0) _ hP.row Try.underlying24 rfl (info24 s) ?_)
  refine (hch.out _).mono ?_
  rintro e w1 ⟨rfl, B1⟩
  have D1 := hB.trans (B1.mono hB.size)
  by_cases h1 : checkI s = 0
  · have h5 : Hid (pageI s page least = if page < least ∨ 4096 < page then 5 else 0) := by show pageI s page least = _; rw [page_second h1, keep_pag]
    rw [h1]
    clear h1
    by_cases h2 : page < least
    · rw [if_pos (.inl h2)] at h5
      go_wp2_with fail
      go_ret
      exact ⟨by rw [h5.out]; rfl, D1⟩
    · by_cases h3 : 4096 < page
      · rw [if_pos (.inr h3)] at h5
        go_wp2_with fail
        go_ret
        exact ⟨by rw [h5.out]; rfl, D1⟩
      · rw [if_neg (by omega)] at h5
        go_wp2_with fail
        go_ret
        exact ⟨by rw [h5.out]; rfl, D1⟩
  · have h5 : Hid (pageI s page least = checkI s) := page_first h1
    obtain ⟨K1, hK⟩ : ∃ x, checkI s = x := ⟨_, rfl⟩
    rw [hK] at h1 h5 ⊢
    clear hK
    have h1' : (K1 == 0) = false := by simpa using h1
    go_wp2_with fail
    go_ret
    exact ⟨by rw [h5.out]; rfl, D1⟩

theorem tmod_one {p : Int} (hp : 0 ≤ p) : p.tmod 2 = 1 ↔ ¬ p % 2 = 0 := by
  rw [Int.tmod_eq_emod_of_nonneg hp]; omega

set_option maxRecDepth 100000 in
set_option maxHeartbeats 1000000 in
theorem rbegin_any (s : Sec) (last : Int) (hl : 0 ≤ last ∧ last ≤ 4096) (w : World) : Calls Try.prog 23 #[seV s, .int .i64 last] w fun e w' => e = .returned (.int .i64 (beginI s last)) ∧ Below w.heap.size w w' := by
  have hB := (Below.refl w.heap.size w).alloc (Nat.le_refl _) (Obj.cells (seC s) 24)
  have hS := SB.new w s
  have c8 := hS.c8
  have t1 := tmod2 (last + 1)
  have t2 := tmod_one (p := last + 1) (by omega)
  clear hS
  unfold seV
  by_cases h1 : s.start = 1
  · by_cases h2 : (last + 1) % 2 = 0
    · have hb : Hid (beginI s last = last + 2) := by unfold beginI; rw [if_pos (.inl ⟨h1, h2⟩)]; rfl
      have e1 := t1.2 h2
      clear t1 t2
      go_enter Try.func23, Try.ntmps23
      go_wp2_with fail
      go_ret
      exact ⟨by rw [hb.out]; simp <;> omega, hB⟩
    · have hb : Hid (beginI s last = last + 1) := by unfold beginI; rw [if_neg (by omega)]; rfl
      have e1 : ¬ (last + 1).tmod 2 = 0 := fun h => h2 (t1.1 h)
      have e2 : (last + 1) % 2 = 1 := by omega
      clear t1 t2
      go_enter Try.func23, Try.ntmps23
      go_wp2_with fail
      go_ret
      exact ⟨by rw [hb.out]; rfl, hB⟩
  · by_cases h3 : s.start = 2
    · by_cases h2 : (last + 1) % 2 = 0
      · have hb : Hid (beginI s last = last + 1) := by unfold beginI; rw [if_neg (by omega)]; rfl
        have e1 : ¬ (last + 1).tmod 2 = 1 := fun h => t2.1 h h2
        have e2 : ¬ (last + 1) % 2 = 1 := by omega
        clear t1 t2
        go_enter Try.func23, Try.ntmps23
        go_wp2_with fail
        go_ret
        exact ⟨by rw [hb.out]; rfl, hB⟩
      · have hb : Hid (beginI s last = last + 2) := by unfold beginI; rw [if_pos (.inr ⟨h3, h2⟩)]; rfl
        have e1 := t2.2 h2
        have e2 : (last + 1) % 2 = 1 := by omega
        clear t1 t2
        go_enter Try.func23, Try.ntmps23
        go_wp2_with fail
        go_ret
        exact ⟨by rw [hb.out]; simp <;> omega, hB⟩
    · have hb : Hid (beginI s last = last + 1) := by unfold beginI; rw [if_neg (by omega)]; rfl
      clear t1 t2
      go_enter Try.func23, Try.ntmps23
      go_wp2_with fail
      go_ret
      exact ⟨by rw [hb.out]; rfl, hB⟩

set_option maxRecDepth 100000 in
set_option maxHeartbeats 1000000 in
theorem rvariant_any (s : Sec) (page : Int) (first : Bool) (hp : 0 ≤ page) (w : World) : Calls Try.prog 24 #[seV s, .int .i64 page, .bool first] w fun e w' => e = .returned (.int .i64 (variantI s page first)) ∧ Below w.heap.size w w' := by
  have hB := (Below.refl w.heap.size w).alloc (Nat.le_refl _) (Obj.cells (seC s) 24)
  have hS := SB.new w s
  have c11 : (w.alloc (Obj.cells (seC s) 24)).cell? ⟨w.heap.size, 11, none⟩ = some (.string s.h0) := hS.cell rfl
  have c14 : (w.alloc (Obj.cells (seC s) 24)).cell? ⟨w.heap.size, 14, none⟩ = some (.string s.f0) := hS.cell rfl
  have t2 := tmod_one hp
  have hv1 : Hid (first = true → empB s.h0 = false ∨ empB s.f0 = false → variantI s page first = 0) := fun h1 h2 => by
    unfold variantI; rw [h1]; rcases h2 with h2 | h2 <;> simp [h2]
  have hv2 : Hid (first = false ∨ (empB s.h0 = true ∧ empB s.f0 = true) → variantI s page first = if page % 2 = 0 then 2 else 1) := fun h => by
    unfold variantI
    rcases h with h | ⟨h, h'⟩
    · simp [h]
    · simp [h, h']
  have hl0 : empB s.h0 = (ByteArray.toList s.h0).isEmpty := rfl
  have hl1 : empB s.f0 = (ByteArray.toList s.f0).isEmpty := rfl
  clear hS
  unfold seV
  by_cases h2 : page % 2 = 0
  · rw [if_pos h2] at hv2
    have e1 : ¬ page.tmod 2 = 1 := fun h => t2.1 h h2
    have e2 : ¬ page % 2 = 1 := by omega
    clear t2
    cases hf : first
    · have hb : Hid (variantI s page first = 2) := hv2.out (.inl hf)
      rw [hf] at hb
      clear hv1 hv2 hl0 hl1
      go_enter Try.func24, Try.ntmps24
      go_wp2_with fail
      go_ret
      exact ⟨by rw [hb.out]; rfl, hB⟩
    · cases he0 : empB s.h0
      · have hb : Hid (variantI s page first = 0) := hv1.out hf (.inl he0)
        rw [hf] at hb
        rw [hl0] at he0
        clear hv1 hv2 hl0 hl1
        go_enter Try.func24, Try.ntmps24
        go_wp2_with fail
        go_ret
        exact ⟨by rw [hb.out]; rfl, hB⟩
      · cases he1 : empB s.f0
        · have hb : Hid (variantI s page first = 0) := hv1.out hf (.inr he1)
          rw [hf] at hb
          rw [hl0] at he0
          rw [hl1] at he1
          clear hv1 hv2 hl0 hl1
          go_enter Try.func24, Try.ntmps24
          go_wp2_with fail
          go_ret
          exact ⟨by rw [hb.out]; rfl, hB⟩
        · have hb : Hid (variantI s page first = 2) := hv2.out (.inr ⟨he0, he1⟩)
          rw [hf] at hb
          rw [hl0] at he0
          rw [hl1] at he1
          clear hv1 hv2 hl0 hl1
          go_enter Try.func24, Try.ntmps24
          go_wp2_with fail
          go_ret
          exact ⟨by rw [hb.out]; rfl, hB⟩
  · rw [if_neg h2] at hv2
    have e1 : page.tmod 2 = 1 := t2.2 h2
    have e2 : page % 2 = 1 := by omega
    clear t2
    cases hf : first
    · have hb : Hid (variantI s page first = 1) := hv2.out (.inl hf)
      rw [hf] at hb
      clear hv1 hv2 hl0 hl1
      go_enter Try.func24, Try.ntmps24
      go_wp2_with fail
      go_ret
      exact ⟨by rw [hb.out]; rfl, hB⟩
    · cases he0 : empB s.h0
      · have hb : Hid (variantI s page first = 0) := hv1.out hf (.inl he0)
        rw [hf] at hb
        rw [hl0] at he0
        clear hv1 hv2 hl0 hl1
        go_enter Try.func24, Try.ntmps24
        go_wp2_with fail
        go_ret
        exact ⟨by rw [hb.out]; rfl, hB⟩
      · cases he1 : empB s.f0
        · have hb : Hid (variantI s page first = 0) := hv1.out hf (.inr he1)
          rw [hf] at hb
          rw [hl0] at he0
          rw [hl1] at he1
          clear hv1 hv2 hl0 hl1
          go_enter Try.func24, Try.ntmps24
          go_wp2_with fail
          go_ret
          exact ⟨by rw [hb.out]; rfl, hB⟩
        · have hb : Hid (variantI s page first = 1) := hv2.out (.inr ⟨he0, he1⟩)
          rw [hf] at hb
          rw [hl0] at he0
          rw [hl1] at he1
          clear hv1 hv2 hl0 hl1
          go_enter Try.func24, Try.ntmps24
          go_wp2_with fail
          go_ret
          exact ⟨by rw [hb.out]; rfl, hB⟩
end Go.Proofs.Ytglgapmjhmeonaa
