/-
  What is proved here: lists of settings that are handed in, read.
  What is proved here: acts that are handed in, with all that they have (for StyleScript).
-/
import Derived.Test.YtifkelpgpdgenaaXResolve
import Derived.ChangeOld
import Derived.Below
import Derived.Deep.Slices
import Derived.ProofKit
import Derived.OpenShut
namespace Go.Proofs.Ytifkelpgpdgenaa
open Go.ChangeShapes Go.WideShapes Go.ChangeAt Go.RowKit Go.Shelf

theorem own : ownKnob Try.prog.godebug = none := by kernel_rfl
theorem laidOut : laidOutB Try.prog = true := by kernel_rfl

set_option maxRecDepth 1000000 in
theorem se_at {H : Type} {enc : TypeId × Value → H} {W : World} {spare : Nat → Bool} {held : Bool} {n : Nat} {b o : Nat} {cs : List Value} {x : DataW H × List MemPlace}
    (hc : W.cells? 0 ⟨b, o, none⟩ 2 = some cs) (ht : DataW.trod enc Try.prog W 0 spare held n 37 cs = some x) :
    ∃ q : Int × Int, W.cell? ⟨b, o, none⟩ = some (.int .i64 q.1) ∧ W.cell? ⟨b, o + 1, none⟩ = some (.int .i64 q.2) := by
  obtain ⟨_, hl, hce⟩ := World.cells?_some hc
  obtain ⟨xs, m, _, _, _, hxl, hf⟩ := DataW.trod_struct Try.underlying37 ht
  have c3 : Try.prog.cellsOf 3 = 1 := by kernel_rfl
  have c24 : Try.prog.cellsOf 24 = 1 := by kernel_rfl
  have f0 : DataW.trod enc Try.prog W 0 spare held m 24 ((cs.drop 0).take (Try.prog.cellsOf 24)) = xs[0]? := hf 0 _ rfl
  have f1 : DataW.trod enc Try.prog W 0 spare held m 3 ((cs.drop 1).take (Try.prog.cellsOf 3)) = xs[1]? := hf 1 _ rfl
  simp only [c3, c24] at f0 f1
  have hsz : xs.length = 2 := hxl
  obtain ⟨y0, y1, rfl⟩ : ∃ y0 y1, xs = [y0, y1] := by
    match xs, hsz with
    | [y0, y1], _ => exact ⟨_, _, rfl⟩
  obtain ⟨z0, z1, rfl⟩ : ∃ y0 y1, cs = [y0, y1] := by
    match cs, hl with
    | [y0, y1], _ => exact ⟨_, _, rfl⟩
  obtain ⟨a, e0, _, _⟩ := DataW.trod_int Try.underlying24 f0
  obtain ⟨c, e1, _, _⟩ := DataW.trod_int Try.underlying3 f1
  simp at e0 e1
  subst e0 e1
  have g0 := hce 0 (by omega)
  have g1 := hce 1 (by omega)
  simp [Addr.add] at g0 g1
  exact ⟨(a, c), g0, g1⟩

theorem sets_trod {H : Type} {enc : TypeId × Value → H} {W : World} {a : Option Addr} {len cap fuel : Nat} {x : DataW H × List MemPlace}
    (hf : DataW.trod enc Try.prog W 0 (fun _ => true) true fuel 44 [.slice a len cap] = some x) : ∃ qs, SetsAt W (.slice a len cap) qs := by
  have c37 : Try.prog.cellsOf 37 = 2 := by kernel_rfl
  rcases Deep.open_slice Try.underlying44 hf with ⟨hcs, _⟩ | ⟨x, l, c, m, n, D, Pl, hcs, _, hl, hm, hmm, _, hx⟩
  · simp at hcs
    exact ⟨[], ⟨a, cap, by rw [hcs.2.1]; rfl, .inl rfl⟩, by simp⟩
  · simp at hcs
    obtain ⟨rfl, rfl, rfl⟩ := hcs
    simp only [if_true] at hmm
    subst hmm
    rw [c37] at hx
    by_cases h0 : len = 0
    · subst h0
      exact ⟨[], ⟨_, _, rfl, .inl rfl⟩, by simp⟩
    · obtain ⟨b, off, spot⟩ := x
      obtain ⟨cs', hc0, ht0⟩ := hx 0 (by omega)
      have hb := World.cells?_block hc0 (by omega)
      obtain ⟨_, hl0, hce⟩ := World.cells?_some hc0
      have hg := hce 0 (by omega)
      have hspot : spot = none := by
        match cs', hl0 with
        | z :: _, _ => simpa [Addr.add] using World.cell?_spot hg
      subst hspot
      have hq : ∀ i : Fin len, ∃ q : Int × Int, W.cell? ⟨b, off + i * 2, none⟩ = some (.int .i64 q.1) ∧ W.cell? ⟨b, off + i * 2 + 1, none⟩ = some (.int .i64 q.2) := fun i => by
        obtain ⟨cs', hc1, ht1⟩ := hx i (by omega)
        rw [addr_add] at hc1
        exact se_at hc1 ht1
      refine ⟨List.ofFn (fun i => Classical.choose (hq i)), ⟨_, _, by simp; exact rfl, .inr ⟨b, off, rfl, hb, fun i hi => ?_⟩⟩, by simp; unfold maxLen at hm; omega⟩
      have hi' : i < len := by simpa using hi
      have := Classical.choose_spec (hq ⟨i, hi'⟩)
      simpa using this

theorem sets_in {H : Type} {enc : TypeId × Value → H} {W : World} {a : Option Addr} {len cap : Nat} {d : DataW H} {ps : List MemPlace}
    (h : DataW.Trod enc Try.prog W 0 (fun _ => true) true 44 (.slice a len cap) d ps) : ∃ qs, SetsAt W (.slice a len cap) qs := by
  obtain ⟨fuel, hf⟩ := h
  exact sets_trod (fuel := fuel) (by simpa [Value.cells] using hf)
end Go.Proofs.Ytifkelpgpdgenaa

namespace Go.Proofs.Ytifkelpgpdgenaa
open Go.ChangeShapes Go.WideShapes Go.ChangeAt Go.RowKit Go.Shelf

/-- An act: its kind, the name, the parent, the settings. -/
abbrev ActD := Int × Str × Str × List (Int × Int)
/-- An act's cells. -/
def ActIn (W : World) (b o : Nat) (q : ActD) : Prop :=
  W.cell? ⟨b, o, none⟩ = some (.int .i64 q.1) ∧ W.cell? ⟨b, o + 1, none⟩ = some (.string q.2.1) ∧ W.cell? ⟨b, o + 2, none⟩ = some (.string q.2.2.1) ∧ q.2.1.size ≤ maxLen ∧ q.2.2.1.size ≤ maxLen ∧ ∃ y c, W.cell? ⟨b, o + 3, none⟩ = some (.slice y q.2.2.2.length c) ∧ SetsAt W (.slice y q.2.2.2.length c) q.2.2.2
/-- Acts in memory. -/
structure ActsAt (W : World) (v : Value) (As : List ActD) : Prop where
  ex : ∃ a cap, v = .slice a As.length cap ∧ (As = [] ∨ ∃ b o, a = some ⟨b, o, none⟩ ∧ b < W.heap.size ∧ ∀ (i : Nat) (h : i < As.length), ActIn W b (o + i * 4) As[i])
  few : As.length ≤ 9223372036854775807

theorem ActIn.below {W W' : World} {b o : Nat} {q : ActD} (h : ActIn W b o q) (hlt : b < W.heap.size) (hb : Below W.heap.size W W') : ActIn W' b o q := by
  obtain ⟨h0, h1, h2, s1, s2, y, c, h3, hS⟩ := h
  exact ⟨(hb.cell hlt).trans h0, (hb.cell hlt).trans h1, (hb.cell hlt).trans h2, s1, s2, y, c, (hb.cell hlt).trans h3, hS.below hb⟩

set_option maxRecDepth 1000000 in
theorem act_at {H : Type} {enc : TypeId × Value → H} {W : World} {n : Nat} {b o : Nat} {cs : List Value} {x : DataW H × List MemPlace}
    (hc : W.cells? 0 ⟨b, o, none⟩ 4 = some cs) (ht : DataW.trod enc Try.prog W 0 (fun _ => true) true n 53 cs = some x) : ∃ q : ActD, ActIn W b o q := by
  obtain ⟨_, hl, hce⟩ := World.cells?_some hc
  obtain ⟨xs, m, _, _, _, hxl, hf⟩ := DataW.trod_struct Try.underlying53 ht
  have c3 : Try.prog.cellsOf 3 = 1 := by kernel_rfl
  have c9 : Try.prog.cellsOf 9 = 1 := by kernel_rfl
  have c44 : Try.prog.cellsOf 44 = 1 := by kernel_rfl
  have f0 : DataW.trod enc Try.prog W 0 (fun _ => true) true m 3 ((cs.drop 0).take (Try.prog.cellsOf 3)) = xs[0]? := hf 0 _ rfl
  have f1 : DataW.trod enc Try.prog W 0 (fun _ => true) true m 9 ((cs.drop 1).take (Try.prog.cellsOf 9)) = xs[1]? := hf 1 _ rfl
  have f2 : DataW.trod enc Try.prog W 0 (fun _ => true) true m 9 ((cs.drop 2).take (Try.prog.cellsOf 9)) = xs[2]? := hf 2 _ rfl
  have f3 : DataW.trod enc Try.prog W 0 (fun _ => true) true m 44 ((cs.drop 3).take (Try.prog.cellsOf 44)) = xs[3]? := hf 3 _ rfl
  simp only [c3, c9, c44] at f0 f1 f2 f3
  have hsz : xs.length = 4 := hxl
  obtain ⟨y0, y1, y2, y3, rfl⟩ : ∃ y0 y1 y2 y3, xs = [y0, y1, y2, y3] := by
    match xs, hsz with
    | [y0, y1, y2, y3], _ => exact ⟨_, _, _, _, rfl⟩
  obtain ⟨z0, z1, z2, z3, rfl⟩ : ∃ y0 y1 y2 y3, cs = [y0, y1, y2, y3] := by
    match cs, hl with
    | [y0, y1, y2, y3], _ => exact ⟨_, _, _, _, rfl⟩
  obtain ⟨k0, e0, _, _⟩ := DataW.trod_int Try.underlying3 f0
  obtain ⟨s1, e1, _, w1⟩ := DataW.trod_string Try.underlying9 f1
  obtain ⟨s2, e2, _, w2⟩ := DataW.trod_string Try.underlying9 f2
  simp at e0 e1 e2
  subst e0 e1 e2
  have g0 := hce 0 (by omega)
  have g1 := hce 1 (by omega)
  have g2 := hce 2 (by omega)
  have g3 := hce 3 (by omega)
  simp [Addr.add] at g0 g1 g2 g3
  simp at f3
  obtain ⟨y, l, c, rfl⟩ : ∃ y l c, z3 = .slice y l c := by
    rcases Deep.open_slice Try.underlying44 f3 with ⟨hcs, _⟩ | ⟨x, l, c, m, n, D, Pl, hcs, _⟩
    · simp at hcs; exact ⟨_, _, _, hcs⟩
    · simp at hcs; exact ⟨_, _, _, hcs⟩
  obtain ⟨L, hL⟩ := sets_trod f3
  obtain ⟨a', cap', he, _⟩ := hL.ex
  cases he
  exact ⟨(k0, s1, s2, L), g0, g1, g2, w1, w2, y, c, g3, hL⟩

theorem acts_in {H : Type} {enc : TypeId × Value → H} {W : World} {a : Option Addr} {len cap : Nat} {d : DataW H} {ps : List MemPlace}
    (h : DataW.Trod enc Try.prog W 0 (fun _ => true) true 43 (.slice a len cap) d ps) : ∃ As, ActsAt W (.slice a len cap) As := by
  obtain ⟨fuel, hf⟩ := h
  have c53 : Try.prog.cellsOf 53 = 4 := by kernel_rfl
  rcases Deep.open_slice Try.underlying43 hf with ⟨hcs, _⟩ | ⟨x, l, c, m, n, D, Pl, hcs, _, hl, hm, hmm, _, hx⟩
  · simp [Value.cells] at hcs
    exact ⟨[], ⟨a, cap, by rw [hcs.2.1]; rfl, .inl rfl⟩, by simp⟩
  · simp [Value.cells] at hcs
    obtain ⟨rfl, rfl, rfl⟩ := hcs
    simp only [if_true] at hmm
    subst hmm
    rw [c53] at hx
    by_cases h0 : len = 0
    · subst h0
      exact ⟨[], ⟨_, _, rfl, .inl rfl⟩, by simp⟩
    · obtain ⟨b, off, spot⟩ := x
      obtain ⟨cs', hc0, ht0⟩ := hx 0 (by omega)
      have hb := World.cells?_block hc0 (by omega)
      obtain ⟨_, hl0, hce⟩ := World.cells?_some hc0
      have hg := hce 0 (by omega)
      have hspot : spot = none := by
        match cs', hl0 with
        | z :: _, _ => simpa [Addr.add] using World.cell?_spot hg
      subst hspot
      have hq : ∀ i : Fin len, ∃ q : ActD, ActIn W b (off + i * 4) q := fun i => by
        obtain ⟨cs', hc1, ht1⟩ := hx i (by omega)
        rw [addr_add] at hc1
        exact act_at hc1 ht1
      refine ⟨List.ofFn (fun i => Classical.choose (hq i)), ⟨_, _, by simp; exact rfl, .inr ⟨b, off, rfl, hb, fun i hi => ?_⟩⟩, by simp; unfold maxLen at hm; omega⟩
      have hi' : i < len := by simpa using hi
      have := Classical.choose_spec (hq ⟨i, hi'⟩)
      simpa using this
end Go.Proofs.Ytifkelpgpdgenaa
