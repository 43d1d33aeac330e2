/-
  What is proved here: how a section that is handed in looks.
-/
import Derived.Test.YtglgapmjhmeonaaMath
import Derived.ProofKit
import Derived.OpenShut
import Derived.ChangeOld
import Derived.Below
import Derived.Deep.Slices
namespace Go.Proofs.Ytglgapmjhmeonaa
open Go.ChangeShapes Go.WideShapes Go.ChangeAt Go.RowKit

theorem own : ownKnob Try.prog.godebug = none := by kernel_rfl
theorem laidOut : laidOutB Try.prog = true := by kernel_rfl

theorem str3 {H : Type} {enc : TypeId × Value → H} {W : World} {spare : Nat → Bool} {held : Bool} {n : Nat} {a b c : Value} {x : DataW H × List MemPlace}
    (ht : DataW.trod enc Try.prog W 0 spare held n 22 [a, b, c] = some x) : ∃ p q r : Str, a = .string p ∧ b = .string q ∧ c = .string r ∧ p.size ≤ maxLen ∧ q.size ≤ maxLen ∧ r.size ≤ maxLen := by
  obtain ⟨xs, m, _, _, _, hxl, hf⟩ := DataW.trod_array Try.underlying22 ht
  have c9 : Try.prog.cellsOf 9 = 1 := by kernel_rfl
  have f0 := hf 0 (by omega)
  have f1 := hf 1 (by omega)
  have f2 := hf 2 (by omega)
  simp only [c9] at f0 f1 f2
  obtain ⟨y0, y1, y2, rfl⟩ : ∃ y0 y1 y2, xs = [y0, y1, y2] := by
    match xs, hxl with
    | [y0, y1, y2], _ => exact ⟨_, _, _, rfl⟩
  obtain ⟨p, e0, _, l0⟩ := DataW.trod_string Try.underlying9 f0
  obtain ⟨q, e1, _, l1⟩ := DataW.trod_string Try.underlying9 f1
  obtain ⟨r, e2, _, l2⟩ := DataW.trod_string Try.underlying9 f2
  simp at e0 e1 e2
  exact ⟨p, q, r, e0, e1, e2, l0, l1, l2⟩

set_option maxRecDepth 100000 in
theorem sec_at {H : Type} {enc : TypeId × Value → H} {W : World} {spare : Nat → Bool} {held : Bool} {n : Nat} {cs : List Value} {x : DataW H × List MemPlace}
    (hl : cs.length = 17) (ht : DataW.trod enc Try.prog W 0 spare held n 24 cs = some x) : ∃ s : Sec, cs = (seC s).toList ∧ ∀ t ∈ texts s, t.size ≤ maxLen := by
  obtain ⟨xs, m, _, _, _, hxl, hf⟩ := DataW.trod_struct Try.underlying24 ht
  have c3 : Try.prog.cellsOf 3 = 1 := by kernel_rfl
  have c22 : Try.prog.cellsOf 22 = 3 := by kernel_rfl
  have f0 : DataW.trod enc Try.prog W 0 spare held m 3 ((cs.drop 0).take (Try.prog.cellsOf 3)) = xs[0]? := hf 0 _ rfl
  have f1 : DataW.trod enc Try.prog W 0 spare held m 3 ((cs.drop 1).take (Try.prog.cellsOf 3)) = xs[1]? := hf 1 _ rfl
  have f2 : DataW.trod enc Try.prog W 0 spare held m 3 ((cs.drop 2).take (Try.prog.cellsOf 3)) = xs[2]? := hf 2 _ rfl
  have f3 : DataW.trod enc Try.prog W 0 spare held m 3 ((cs.drop 3).take (Try.prog.cellsOf 3)) = xs[3]? := hf 3 _ rfl
  have f4 : DataW.trod enc Try.prog W 0 spare held m 3 ((cs.drop 4).take (Try.prog.cellsOf 3)) = xs[4]? := hf 4 _ rfl
  have f5 : DataW.trod enc Try.prog W 0 spare held m 3 ((cs.drop 5).take (Try.prog.cellsOf 3)) = xs[5]? := hf 5 _ rfl
  have f6 : DataW.trod enc Try.prog W 0 spare held m 3 ((cs.drop 6).take (Try.prog.cellsOf 3)) = xs[6]? := hf 6 _ rfl
  have f7 : DataW.trod enc Try.prog W 0 spare held m 3 ((cs.drop 7).take (Try.prog.cellsOf 3)) = xs[7]? := hf 7 _ rfl
  have f8 : DataW.trod enc Try.prog W 0 spare held m 3 ((cs.drop 8).take (Try.prog.cellsOf 3)) = xs[8]? := hf 8 _ rfl
  have f9 : DataW.trod enc Try.prog W 0 spare held m 3 ((cs.drop 9).take (Try.prog.cellsOf 3)) = xs[9]? := hf 9 _ rfl
  have f10 : DataW.trod enc Try.prog W 0 spare held m 3 ((cs.drop 10).take (Try.prog.cellsOf 3)) = xs[10]? := hf 10 _ rfl
  have f11 : DataW.trod enc Try.prog W 0 spare held m 22 ((cs.drop 11).take (Try.prog.cellsOf 22)) = xs[11]? := hf 11 _ rfl
  have f12 : DataW.trod enc Try.prog W 0 spare held m 22 ((cs.drop 14).take (Try.prog.cellsOf 22)) = xs[12]? := hf 12 _ rfl
  simp only [c3, c22] at f0 f1 f2 f3 f4 f5 f6 f7 f8 f9 f10 f11 f12
  have hsz : xs.length = 13 := hxl
  obtain ⟨y0, y1, y2, y3, y4, y5, y6, y7, y8, y9, y10, y11, y12, rfl⟩ : ∃ y0 y1 y2 y3 y4 y5 y6 y7 y8 y9 y10 y11 y12, xs = [y0, y1, y2, y3, y4, y5, y6, y7, y8, y9, y10, y11, y12] := by
    match xs, hsz with
    | [y0, y1, y2, y3, y4, y5, y6, y7, y8, y9, y10, y11, y12], _ => exact ⟨_, _, _, _, _, _, _, _, _, _, _, _, _, rfl⟩
  obtain ⟨z0, z1, z2, z3, z4, z5, z6, z7, z8, z9, z10, z11, z12, z13, z14, z15, z16, rfl⟩ : ∃ z0 z1 z2 z3 z4 z5 z6 z7 z8 z9 z10 z11 z12 z13 z14 z15 z16, cs = [z0, z1, z2, z3, z4, z5, z6, z7, z8, z9, z10, z11, z12, z13, z14, z15, z16] := by
    match cs, hl with
    | [z0, z1, z2, z3, z4, z5, z6, z7, z8, z9, z10, z11, z12, z13, z14, z15, z16], _ => exact ⟨_, _, _, _, _, _, _, _, _, _, _, _, _, _, _, _, _, rfl⟩
  obtain ⟨a0, e0, _, _⟩ := DataW.trod_int Try.underlying3 f0
  obtain ⟨a1, e1, _, _⟩ := DataW.trod_int Try.underlying3 f1
  obtain ⟨a2, e2, _, _⟩ := DataW.trod_int Try.underlying3 f2
  obtain ⟨a3, e3, _, _⟩ := DataW.trod_int Try.underlying3 f3
  obtain ⟨a4, e4, _, _⟩ := DataW.trod_int Try.underlying3 f4
  obtain ⟨a5, e5, _, _⟩ := DataW.trod_int Try.underlying3 f5
  obtain ⟨a6, e6, _, _⟩ := DataW.trod_int Try.underlying3 f6
  obtain ⟨a7, e7, _, _⟩ := DataW.trod_int Try.underlying3 f7
  obtain ⟨a8, e8, _, _⟩ := DataW.trod_int Try.underlying3 f8
  obtain ⟨a9, e9, _, _⟩ := DataW.trod_int Try.underlying3 f9
  obtain ⟨a10, e10, _, _⟩ := DataW.trod_int Try.underlying3 f10
  obtain ⟨p0, p1, p2, g0, g1, g2, l0, l1, l2⟩ := str3 (show DataW.trod enc Try.prog W 0 spare held m 22 [z11, z12, z13] = some y11 from f11)
  obtain ⟨q0, q1, q2, k0, k1, k2, m0, m1, m2⟩ := str3 (show DataW.trod enc Try.prog W 0 spare held m 22 [z14, z15, z16] = some y12 from f12)
  simp at e0 e1 e2 e3 e4 e5 e6 e7 e8 e9 e10
  subst e0 e1 e2 e3 e4 e5 e6 e7 e8 e9 e10 g0 g1 g2 k0 k1 k2
  refine ⟨⟨a0, a1, a2, a3, a4, a5, a6, a7, a8, a9, a10, p0, p1, p2, q0, q1, q2⟩, rfl, fun t ht => ?_⟩
  simp [texts] at ht
  rcases ht with rfl | rfl | rfl | rfl | rfl | rfl <;> assumption

/-- A section that is handed in. -/
theorem open_sec {H : Type} {enc : TypeId × Value → H} {W : World} {v : Value} {d : DataW H} {ps : List MemPlace} {base : Nat} (hok : Value.okWide Try.prog W .any base 24 v)
    (h : DataW.Trod enc Try.prog W 0 (fun _ => true) true 24 v d ps) : ∃ s : Sec, v = seV s ∧ ∀ t ∈ texts s, t.size ≤ 9223372036854775807 := by
  obtain ⟨cs, rfl, hsz⟩ := okWide_struct Try.underlying24 hok
  obtain ⟨fuel, hf⟩ := h
  have c24 : Try.prog.cellsOf 24 = 17 := by kernel_rfl
  obtain ⟨s, hs, hm⟩ := sec_at (cs := cs.toList) (by rw [c24] at hsz; simpa using hsz) hf
  refine ⟨s, ?_, fun t ht => ?_⟩
  · unfold seV; rw [Array.toList_inj.1 hs]
  · have := hm t ht; unfold maxLen at this; omega
end Go.Proofs.Ytglgapmjhmeonaa
