/-
  What is proved here: StyleLoops answers true at every input, with no condition: however styles are defined anew, none is its own ancestor.
-/
import Derived.Test.YtifkelpgpdgenaaLoopWalk
import Derived.Test.YtifkelpgpdgenaaNames
import Derived.Test.YtifkelpgpdgenaaOpen
namespace Go.Proofs.Ytifkelpgpdgenaa.styleLoops
open Go.ChangeShapes Go.WideShapes Go.ChangeAt Go.RowKit Go.Shelf

set_option maxRecDepth 1000000 in
theorem act_at {H : Type} {enc : TypeId × Value → H} {W : World} {spare : Nat → Bool} {held : Bool} {n : Nat} {b o : Nat} {cs : List Value} {x : DataW H × List MemPlace}
    (hc : W.cells? 0 ⟨b, o, none⟩ 4 = some cs) (ht : DataW.trod enc Try.prog W 0 spare held n 53 cs = some x) :
    ∃ q : Str × Str, W.cell? ⟨b, o + 1, none⟩ = some (.string q.1) ∧ W.cell? ⟨b, o + 2, none⟩ = some (.string q.2) ∧ q.1.size ≤ maxLen ∧ q.2.size ≤ maxLen := by
  obtain ⟨_, hl, hce⟩ := World.cells?_some hc
  obtain ⟨xs, m, _, _, _, hxl, hf⟩ := DataW.trod_struct Try.underlying53 ht
  have c9 : Try.prog.cellsOf 9 = 1 := by kernel_rfl
  have f1 : DataW.trod enc Try.prog W 0 spare held m 9 ((cs.drop 1).take (Try.prog.cellsOf 9)) = xs[1]? := hf 1 _ rfl
  have f2 : DataW.trod enc Try.prog W 0 spare held m 9 ((cs.drop 2).take (Try.prog.cellsOf 9)) = xs[2]? := hf 2 _ rfl
  simp only [c9] at f1 f2
  have hsz : xs.length = 4 := hxl
  obtain ⟨y0, y1, y2, y3, rfl⟩ : ∃ y0 y1 y2 y3, xs = [y0, y1, y2, y3] := by
    match xs, hsz with
    | [y0, y1, y2, y3], _ => exact ⟨_, _, _, _, rfl⟩
  obtain ⟨z0, z1, z2, z3, rfl⟩ : ∃ y0 y1 y2 y3, cs = [y0, y1, y2, y3] := by
    match cs, hl with
    | [y0, y1, y2, y3], _ => exact ⟨_, _, _, _, rfl⟩
  obtain ⟨s1, e1, _, w1⟩ := DataW.trod_string Try.underlying9 f1
  obtain ⟨s2, e2, _, w2⟩ := DataW.trod_string Try.underlying9 f2
  simp at e1 e2
  subst e1 e2
  have g1 := hce 1 (by omega)
  have g2 := hce 2 (by omega)
  simp [Addr.add] at g1 g2
  exact ⟨(s1, s2), g1, g2, w1, w2⟩

theorem acts_in {H : Type} {enc : TypeId × Value → H} {W : World} {a : Option Addr} {len cap : Nat} {d : DataW H} {ps : List MemPlace}
    (h : DataW.Trod enc Try.prog W 0 (fun _ => true) true 43 (.slice a len cap) d ps) : ∃ As, ActsAt W (.slice a len cap) As := by
  obtain ⟨fuel, hf⟩ := h
  have c53 : Try.prog.cellsOf 53 = 4 := by kernel_rfl
  rcases Deep.open_slice Try.underlying43 hf with ⟨hcs, _⟩ | ⟨x, l, c, m, n, D, Pl, hcs, _, hl, hm, hmm, _, hx⟩
  · simp [Value.cells] at hcs
    exact ⟨[], ⟨a, cap, by rw [hcs.2.1]; rfl, .inl rfl⟩, by simp⟩
  · simp [Value.cells] at hcs
    obtain ⟨rfl, rfl, rfl⟩ := hcs
    simp only [if_true] at hmm
    subst hmm
    rw [c53] at hx
    by_cases h0 : len = 0
    · subst h0
      exact ⟨[], ⟨_, _, rfl, .inl rfl⟩, by simp⟩
    · obtain ⟨b, off, spot⟩ := x
      obtain ⟨cs', hc0, ht0⟩ := hx 0 (by omega)
      have hb := World.cells?_block hc0 (by omega)
      obtain ⟨_, hl0, hce⟩ := World.cells?_some hc0
      have hg := hce 0 (by omega)
      have hspot : spot = none := by
        match cs', hl0 with
        | z :: _, _ => simpa [Addr.add] using World.cell?_spot hg
      subst hspot
      have hq : ∀ i : Fin len, ∃ q : Str × Str, W.cell? ⟨b, off + i * 4 + 1, none⟩ = some (.string q.1) ∧ W.cell? ⟨b, off + i * 4 + 2, none⟩ = some (.string q.2) ∧ q.1.size ≤ maxLen ∧ q.2.size ≤ maxLen := fun i => by
        obtain ⟨cs', hc1, ht1⟩ := hx i (by omega)
        rw [addr_add] at hc1
        exact act_at hc1 ht1
      refine ⟨List.ofFn (fun i => Classical.choose (hq i)), ⟨_, _, by simp; exact rfl, .inr ⟨b, off, rfl, hb, fun i hi => ?_⟩⟩, by simp; unfold maxLen at hm; omega⟩
      have hi' : i < len := by simpa using hi
      have := Classical.choose_spec (hq ⟨i, hi'⟩)
      simpa using this

set_option maxRecDepth 100000 in
theorem lifted (os : Os) (started : os.Started) (H : Type) (enc : TypeId × Value → H) :
    ReturnsInHanded {} Try.checked os 8 .any (Rows.styleLoopsSpec.pre6 enc Try.prog Try.f8 Rows.styleLoopsRow.domain false) (Rows.styleLoopsSpec.post enc Try.prog Try.f8 false true false false) := by
  refine returnsInHanded_of_change (C := Try.checked) own started (by kernel_rfl) Try.func8
    (ChangeSpec.witness6 (enc := enc) (C := Try.checked) false ⟨#[], #[.slice none 0 0], []⟩ 8 (by kernel_rfl) (by kernel_rfl) (by kernel_rfl) (by kernel_rfl)) ?_
  intro W base args ds gs before hval0 hW hcnd _
  have hval : ∀ (j : Nat) t v, Try.f8.params[j]? = some t → args[j]? = some v → Value.okWide Try.prog W .any base t v := hval0
  have hW' := hW
  obtain ⟨p, q, hA0, hV, rfl, hfz, hnd⟩ := hW
  have hA : DataW.TrodAll enc Try.prog W 0 (fun _ => true) true Try.f8.params.toList args.toList ds p := hA0
  rw [Try.params8] at hA hval
  obtain ⟨v0, vs0, d0, ds0, p0, q0, hargs, rfl, rfl, h0, r0⟩ := trodAll_cons hA
  obtain ⟨rfl, rfl, rfl⟩ := trodAll_nil r0
  obtain rfl : args = #[v0] := by cases args; simp_all
  obtain ⟨rfl, rfl⟩ := trodVars_none hV
  have k0 := h0
  have lt0 : ∀ x ∈ p0, x.block < W.heap.size := by obtain ⟨m, hm⟩ := k0; exact DataW.trod_lt m _ _ _ hm
  obtain ⟨a0, len0, cap0, rfl⟩ := okWide_slice Try.underlying43 (hval 0 43 v0 rfl rfl)
  obtain ⟨As, s0⟩ := acts_in h0
  clear hA0 hval0
  refine (loops_walk names_any _ As W s0).mono fun e W' ⟨he, bel⟩ => ?_
  subst he
  exact ⟨_, rfl, _, _, _, [], _, [], hW', trodAll_mk1 (shut_bool Try.underlying4 _), (trodAll_cons_mk (Below.trod laidOut (by kernel_rfl) (of_decide_eq_true (by kernel_rfl)) k0 bel lt0) trodAll_mk0), rfl, bel.frame _, fun h => by cases h⟩

theorem over : Rows.styleLoopsRow.holds Try.pinned (OpenSpec.ofChange Rows.styleLoopsSpec) :=
  OpenClaim.holds_of_wide 8 Try.f8 rfl rfl rfl rfl rfl rfl rfl ⟨rfl, rfl, rfl, rfl, rfl⟩ rfl rfl rfl rfl rfl (by kernel_rfl) Try.func8 (by kernel_rfl)
    (of_decide_eq_true (by kernel_rfl)) (by unfold Func.isWrapper; first | (rw [if_pos (by decide +kernel)]; kernel_rfl) | (rw [if_neg (by decide +kernel)]; exact ⟨rfl, rfl⟩))
    (fun os started H enc _ => lifted os started H enc)

end Go.Proofs.Ytifkelpgpdgenaa.styleLoops
namespace Go.Proofs.Ytifkelpgpdgenaa

theorem styleLoops_holds : Rows.StyleLoopsSaid := styleLoops.over

end Go.Proofs.Ytifkelpgpdgenaa
