/-
  What is proved here: StyleNearest answers true at every input, with no condition: of styles, each of which has the one ahead of it as its parent, what is resolved is, property by property, the last setting of the paragraph's own, else of the nearest style that sets it, else what there is without a style.
-/
import Derived.Test.YtifkelpgpdgenaaNearWalk
import Derived.Test.YtifkelpgpdgenaaOpen
namespace Go.Proofs.Ytifkelpgpdgenaa.styleNearest
open Go.ChangeShapes Go.WideShapes Go.ChangeAt Go.RowKit Go.Shelf

theorem ll_at {H : Type} {enc : TypeId × Value → H} {W : World} {n : Nat} {b o : Nat} {cs : List Value} {x : DataW H × List MemPlace}
    (hc : W.cells? 0 ⟨b, o, none⟩ 1 = some cs) (ht : DataW.trod enc Try.prog W 0 (fun _ => true) true n 44 cs = some x) :
    ∃ L : List (Int × Int), ∃ y c, W.cell? ⟨b, o, none⟩ = some (.slice y L.length c) ∧ SetsAt W (.slice y L.length c) L := by
  obtain ⟨_, hl, hce⟩ := World.cells?_some hc
  obtain ⟨z, rfl⟩ : ∃ z, cs = [z] := by
    match cs, hl with
    | [z], _ => exact ⟨_, rfl⟩
  have g0 := hce 0 (by omega)
  simp [Addr.add] at g0
  obtain ⟨y, l, c, rfl⟩ : ∃ y l c, z = .slice y l c := by
    rcases Deep.open_slice Try.underlying44 ht with ⟨hcs, _⟩ | ⟨x, l, c, m, n, D, Pl, hcs, _⟩
    · simp at hcs; exact ⟨_, _, _, hcs⟩
    · simp at hcs; exact ⟨_, _, _, hcs⟩
  obtain ⟨L, hL⟩ := sets_trod ht
  obtain ⟨a, cap, e, _⟩ := id hL.ex
  cases e
  exact ⟨L, _, _, g0, hL⟩

theorem ll_in {H : Type} {enc : TypeId × Value → H} {W : World} {a : Option Addr} {len cap : Nat} {d : DataW H} {ps : List MemPlace}
    (h : DataW.Trod enc Try.prog W 0 (fun _ => true) true 69 (.slice a len cap) d ps) : ∃ Ls, LLAt W (.slice a len cap) Ls := by
  obtain ⟨fuel, hf⟩ := h
  have c44 : Try.prog.cellsOf 44 = 1 := by kernel_rfl
  rcases Deep.open_slice Try.underlying69 hf with ⟨hcs, _⟩ | ⟨x, l, c, m, n, D, Pl, hcs, _, hl, hm, hmm, _, hx⟩
  · simp [Value.cells] at hcs
    exact ⟨[], ⟨a, cap, by rw [hcs.2.1]; rfl, .inl rfl⟩, by simp⟩
  · simp [Value.cells] at hcs
    obtain ⟨rfl, rfl, rfl⟩ := hcs
    simp only [if_true] at hmm
    subst hmm
    rw [c44] at hx
    by_cases h0 : len = 0
    · subst h0
      exact ⟨[], ⟨_, _, rfl, .inl rfl⟩, by simp⟩
    · obtain ⟨b, off, spot⟩ := x
      obtain ⟨cs', hc0, ht0⟩ := hx 0 (by omega)
      have hb := World.cells?_block hc0 (by omega)
      obtain ⟨_, hl0, hce⟩ := World.cells?_some hc0
      have hg := hce 0 (by omega)
      have hspot : spot = none := by
        match cs', hl0 with
        | z :: _, _ => simpa [Addr.add] using World.cell?_spot hg
      subst hspot
      have hq : ∀ i : Fin len, ∃ L : List (Int × Int), ∃ y c, W.cell? ⟨b, off + i, none⟩ = some (.slice y L.length c) ∧ SetsAt W (.slice y L.length c) L := fun i => by
        obtain ⟨cs', hc1, ht1⟩ := hx i (by omega)
        rw [addr_add, Nat.mul_one] at hc1
        exact ll_at hc1 ht1
      refine ⟨List.ofFn (fun i => Classical.choose (hq i)), ⟨_, _, by simp; exact rfl, .inr ⟨b, off, rfl, hb, fun i hi => ?_⟩⟩, by simp; unfold maxLen at hm; omega⟩
      have hi' : i < len := by simpa using hi
      have := Classical.choose_spec (hq ⟨i, hi'⟩)
      have e : (List.ofFn (fun i => Classical.choose (hq i))).getD i [] = Classical.choose (hq ⟨i, hi'⟩) := by simp [List.getD_eq_getElem?_getD, hi']
      rw [e]; exact this

set_option maxRecDepth 100000 in
theorem lifted (os : Os) (started : os.Started) (H : Type) (enc : TypeId × Value → H) :
    ReturnsInHanded {} Try.checked os 6 .any (Rows.styleNearestSpec.pre6 enc Try.prog Try.f6 Rows.styleNearestRow.domain false) (Rows.styleNearestSpec.post enc Try.prog Try.f6 false true false false) := by
  refine returnsInHanded_of_change (C := Try.checked) own started (by kernel_rfl) Try.func6
    (ChangeSpec.witness6 (enc := enc) (C := Try.checked) false ⟨#[], #[.slice none 0 0, .slice none 0 0], []⟩ 8 (by kernel_rfl) (by kernel_rfl) (by kernel_rfl) (by kernel_rfl)) ?_
  intro W base args ds gs before hval0 hW hcnd _
  have hval : ∀ (j : Nat) t v, Try.f6.params[j]? = some t → args[j]? = some v → Value.okWide Try.prog W .any base t v := hval0
  have hW' := hW
  obtain ⟨p, q, hA0, hV, rfl, hfz, hnd⟩ := hW
  have hA : DataW.TrodAll enc Try.prog W 0 (fun _ => true) true Try.f6.params.toList args.toList ds p := hA0
  rw [Try.params6] at hA hval
  obtain ⟨v0, vs0, d0, ds0, p0, q0, hargs, rfl, rfl, h0, r0⟩ := trodAll_cons hA
  obtain ⟨v1, vs1, d1, ds1, p1, q1, rfl, rfl, rfl, h1, r1⟩ := trodAll_cons r0
  obtain ⟨rfl, rfl, rfl⟩ := trodAll_nil r1
  obtain rfl : args = #[v0, v1] := by cases args; simp_all
  obtain ⟨rfl, rfl⟩ := trodVars_none hV
  have k0 := h0
  have lt0 : ∀ x ∈ p0, x.block < W.heap.size := by obtain ⟨m, hm⟩ := k0; exact DataW.trod_lt m _ _ _ hm
  obtain ⟨a0, len0, cap0, rfl⟩ := okWide_slice Try.underlying69 (hval 0 69 v0 rfl rfl)
  obtain ⟨Ls, s0⟩ := ll_in h0
  have k1 := h1
  have lt1 : ∀ x ∈ p1, x.block < W.heap.size := by obtain ⟨m, hm⟩ := k1; exact DataW.trod_lt m _ _ _ hm
  obtain ⟨a1, len1, cap1, rfl⟩ := okWide_slice Try.underlying44 (hval 1 44 v1 rfl rfl)
  obtain ⟨L1, s1⟩ := sets_in h1
  clear hA0 hval0
  refine (near_walk _ _ Ls L1 W s0 s1).mono fun e W' ⟨he, bel⟩ => ?_
  subst he
  exact ⟨_, rfl, _, _, _, [], _, [], hW', trodAll_mk1 (shut_bool Try.underlying4 _), (trodAll_cons_mk (Below.trod laidOut (by kernel_rfl) (of_decide_eq_true (by kernel_rfl)) k0 bel lt0) (trodAll_cons_mk (Below.trod laidOut (by kernel_rfl) (of_decide_eq_true (by kernel_rfl)) k1 bel lt1) trodAll_mk0)), rfl, bel.frame _, fun h => by cases h⟩

theorem over : Rows.styleNearestRow.holds Try.pinned (OpenSpec.ofChange Rows.styleNearestSpec) :=
  OpenClaim.holds_of_wide 6 Try.f6 rfl rfl rfl rfl rfl rfl rfl ⟨rfl, rfl, rfl, rfl, rfl⟩ rfl rfl rfl rfl rfl (by kernel_rfl) Try.func6 (by kernel_rfl)
    (of_decide_eq_true (by kernel_rfl)) (by unfold Func.isWrapper; first | (rw [if_pos (by decide +kernel)]; kernel_rfl) | (rw [if_neg (by decide +kernel)]; exact ⟨rfl, rfl⟩))
    (fun os started H enc _ => lifted os started H enc)

end Go.Proofs.Ytifkelpgpdgenaa.styleNearest
namespace Go.Proofs.Ytifkelpgpdgenaa

theorem styleNearest_holds : Rows.StyleNearestSaid := styleNearest.over

end Go.Proofs.Ytifkelpgpdgenaa
