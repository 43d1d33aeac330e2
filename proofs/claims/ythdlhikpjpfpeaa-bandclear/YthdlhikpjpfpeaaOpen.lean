/-
  What is proved here: how a list of bands or objects that is handed in looks.
-/
import Derived.Test.YthdlhikpjpfpeaaKnown
import Derived.ProofKit
import Derived.OpenShut
import Derived.ChangeOld
import Derived.Below
import Derived.Deep.Slices
import Derived.SizedLaws
namespace Go.Proofs.Ythdlhikpjpfpeaa
open Go.ChangeShapes Go.WideShapes Go.ChangeAt Go.RowKit

theorem own : ownKnob Try.prog.godebug = none := by kernel_rfl
theorem laidOut : laidOutB Try.prog = true := by kernel_rfl
set_option maxRecDepth 100000 in
theorem bd_at {H : Type} {enc : TypeId × Value → H} {W : World} {spare : Nat → Bool} {held : Bool} {n : Nat} {cs : List Value} {x : DataW H × List MemPlace}
    (hl : cs.length = 4) (ht : DataW.trod enc Try.prog W 0 spare held n 34 cs = some x) : ∃ q : Bd, cs = bdL q := by
  obtain ⟨xs, m, _, _, _, hxl, hf⟩ := DataW.trod_struct Try.underlying34 ht
  have c3 : Try.prog.cellsOf 3 = 1 := by kernel_rfl
  have f0 : DataW.trod enc Try.prog W 0 spare held m 3 ((cs.drop 0).take (Try.prog.cellsOf 3)) = xs[0]? := hf 0 _ rfl
  have f1 : DataW.trod enc Try.prog W 0 spare held m 3 ((cs.drop 1).take (Try.prog.cellsOf 3)) = xs[1]? := hf 1 _ rfl
  have f2 : DataW.trod enc Try.prog W 0 spare held m 3 ((cs.drop 2).take (Try.prog.cellsOf 3)) = xs[2]? := hf 2 _ rfl
  have f3 : DataW.trod enc Try.prog W 0 spare held m 3 ((cs.drop 3).take (Try.prog.cellsOf 3)) = xs[3]? := hf 3 _ rfl
  simp only [c3] at f0 f1 f2 f3
  have hsz : xs.length = 4 := hxl
  obtain ⟨y0, y1, y2, y3, rfl⟩ : ∃ y0 y1 y2 y3, xs = [y0, y1, y2, y3] := by
    match xs, hsz with
    | [y0, y1, y2, y3], _ => exact ⟨_, _, _, _, rfl⟩
  obtain ⟨z0, z1, z2, z3, rfl⟩ : ∃ z0 z1 z2 z3, cs = [z0, z1, z2, z3] := by
    match cs, hl with
    | [z0, z1, z2, z3], _ => exact ⟨_, _, _, _, rfl⟩
  obtain ⟨a0, e0, _, _⟩ := DataW.trod_int Try.underlying3 f0
  obtain ⟨a1, e1, _, _⟩ := DataW.trod_int Try.underlying3 f1
  obtain ⟨a2, e2, _, _⟩ := DataW.trod_int Try.underlying3 f2
  obtain ⟨a3, e3, _, _⟩ := DataW.trod_int Try.underlying3 f3
  simp at e0 e1 e2 e3
  subst e0 e1 e2 e3
  exact ⟨⟨a0, a1, a2, a3⟩, rfl⟩

set_option maxRecDepth 100000 in
theorem ob_at {H : Type} {enc : TypeId × Value → H} {W : World} {spare : Nat → Bool} {held : Bool} {n : Nat} {cs : List Value} {x : DataW H × List MemPlace}
    (hl : cs.length = 4) (ht : DataW.trod enc Try.prog W 0 spare held n 40 cs = some x) : ∃ q : Bd, cs = bdL q := by
  obtain ⟨xs, m, _, _, _, hxl, hf⟩ := DataW.trod_struct Try.underlying40 ht
  have c3 : Try.prog.cellsOf 3 = 1 := by kernel_rfl
  have f0 : DataW.trod enc Try.prog W 0 spare held m 3 ((cs.drop 0).take (Try.prog.cellsOf 3)) = xs[0]? := hf 0 _ rfl
  have f1 : DataW.trod enc Try.prog W 0 spare held m 3 ((cs.drop 1).take (Try.prog.cellsOf 3)) = xs[1]? := hf 1 _ rfl
  have f2 : DataW.trod enc Try.prog W 0 spare held m 3 ((cs.drop 2).take (Try.prog.cellsOf 3)) = xs[2]? := hf 2 _ rfl
  have f3 : DataW.trod enc Try.prog W 0 spare held m 3 ((cs.drop 3).take (Try.prog.cellsOf 3)) = xs[3]? := hf 3 _ rfl
  simp only [c3] at f0 f1 f2 f3
  have hsz : xs.length = 4 := hxl
  obtain ⟨y0, y1, y2, y3, rfl⟩ : ∃ y0 y1 y2 y3, xs = [y0, y1, y2, y3] := by
    match xs, hsz with
    | [y0, y1, y2, y3], _ => exact ⟨_, _, _, _, rfl⟩
  obtain ⟨z0, z1, z2, z3, rfl⟩ : ∃ z0 z1 z2 z3, cs = [z0, z1, z2, z3] := by
    match cs, hl with
    | [z0, z1, z2, z3], _ => exact ⟨_, _, _, _, rfl⟩
  obtain ⟨a0, e0, _, _⟩ := DataW.trod_int Try.underlying3 f0
  obtain ⟨a1, e1, _, _⟩ := DataW.trod_int Try.underlying3 f1
  obtain ⟨a2, e2, _, _⟩ := DataW.trod_int Try.underlying3 f2
  obtain ⟨a3, e3, _, _⟩ := DataW.trod_int Try.underlying3 f3
  simp at e0 e1 e2 e3
  subst e0 e1 e2 e3
  exact ⟨⟨a0, a1, a2, a3⟩, rfl⟩

/-- A list of records that is handed in. -/
theorem recs_in {H : Type} {enc : TypeId × Value → H} {W : World} {spare : Nat → Bool} {fuel : Nat} {cs : List Value} {x : DataW H × List MemPlace} {α : Type} {k : Nat} {f : α → List Value} {ty e : TypeId} (hu : Try.prog.underlying ty = some (.slice e)) (ck : Try.prog.cellsOf e = k) (hk : 0 < k)
    (hat : ∀ (n : Nat) (cs : List Value) (x : DataW H × List MemPlace), cs.length = k → DataW.trod enc Try.prog W 0 spare true n e cs = some x → ∃ q : α, cs = f q)
    (hf : DataW.trod enc Try.prog W 0 spare true fuel ty cs = some x) : ∃ (v : Value) (qs : List α), cs = [v] ∧ RecAt k f W v qs ∧ qs.length ≤ 9223372036854775807 ∧ ((x.1 = .nil ∧ qs = []) ∨ ∃ es sp, x.1 = .slice es sp ∧ es.length = qs.length) := by
  rcases Deep.open_slice hu hf with ⟨hcs, hx0⟩ | ⟨a, len, cap, m, n, D, Pl, hcs, _, hl, hm, hmm, hx1, hx⟩
  · subst hcs
    exact ⟨_, [], rfl, ⟨⟨none, 0, rfl, .inl rfl⟩, fun a n c e => by cases e; exact Nat.le_refl _⟩, by simp, .inl ⟨by rw [hx0], rfl⟩⟩
  · subst hcs
    have hlm : len ≤ m := by rw [hmm]; split <;> omega
    rw [ck] at hx
    have hdat : ∃ es sp, x.1 = .slice es sp ∧ es.length = len := by rw [hx1]; exact ⟨_, _, rfl, by simp⟩
    obtain ⟨es, sp, hes, hel⟩ := hdat
    by_cases h0 : len = 0
    · subst h0
      exact ⟨_, [], rfl, ⟨⟨_, _, rfl, .inl rfl⟩, fun a n c e => by cases e; exact hl⟩, by simp, .inr ⟨es, sp, hes, by simpa using hel⟩⟩
    · obtain ⟨b, off, spot⟩ := a
      obtain ⟨cs', hc0, ht0⟩ := hx 0 (by omega)
      have hb := World.cells?_block hc0 (by omega)
      obtain ⟨_, hl0, hce⟩ := World.cells?_some hc0
      have hg := hce 0 (by omega)
      have hspot : spot = none := by
        match cs', hl0 with
        | z :: _, _ => simpa [Addr.add] using World.cell?_spot hg
        | [], h => simp at h; omega
      subst hspot
      rw [addr_add] at hb
      have hq : ∀ i : Fin len, ∃ q : α, ∀ j u, (f q)[j]? = some u → W.cell? ⟨b, off + i * k + j, none⟩ = some u := fun i => by
        obtain ⟨cs', hc1, ht1⟩ := hx i (by omega)
        rw [addr_add] at hc1
        obtain ⟨_, hl1, hce1⟩ := World.cells?_some hc1
        obtain ⟨q, rfl⟩ := hat _ _ _ hl1 ht1
        refine ⟨q, fun j u hu => ?_⟩
        have hj : j < (f q).length := (List.getElem?_eq_some_iff.1 hu).1
        have := hce1 j (by omega)
        rw [addr_add] at this
        exact this.trans hu
      refine ⟨_, List.ofFn (fun i => Classical.choose (hq i)), rfl, ⟨⟨_, _, by simp; exact rfl, .inr ⟨b, off, rfl, hb, fun i hi j u hu => ?_⟩⟩, fun a n c e => by cases e; exact hl⟩, by simp; unfold maxLen at hm; omega, .inr ⟨es, sp, hes, by simpa using hel⟩⟩
      have hi' : i < len := by simpa using hi
      have := Classical.choose_spec (hq ⟨i, hi'⟩) j u (by simpa using hu)
      simpa using this

end Go.Proofs.Ythdlhikpjpfpeaa
