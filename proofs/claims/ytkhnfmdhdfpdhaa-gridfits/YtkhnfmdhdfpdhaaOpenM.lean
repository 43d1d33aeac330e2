/-
  What is proved here: how lists of masses and paragraphs that are handed in look.
-/
import Derived.Test.YtkhnfmdhdfpdhaaNatA
import Derived.ProofKit
import Derived.OpenShut
import Derived.ChangeOld
import Derived.Below
import Derived.Deep.Slices
import Derived.SizedLaws
namespace Go.Proofs.Ytkhnfmdhdfpdhaa
open Go.ChangeShapes Go.WideShapes Go.ChangeAt Go.RowKit

theorem own : ownKnob Try.prog.godebug = none := by kernel_rfl
theorem laidOut : laidOutB Try.prog = true := by kernel_rfl

set_option maxRecDepth 100000 in
theorem pr_at {H : Type} {enc : TypeId × Value → H} {W : World} {spare : Nat → Bool} {held : Bool} {n : Nat} {cs : List Value} {x : DataW H × List MemPlace}
    (hl : cs.length = 17) (ht : DataW.trod enc Try.prog W 0 spare held n 37 cs = some x) : ∃ q : Pr, cs = prL q := by
  obtain ⟨xs, m, _, _, _, hxl, hf⟩ := DataW.trod_struct Try.underlying37 ht
  have c3 : Try.prog.cellsOf 3 = 1 := by kernel_rfl
  have f0 : DataW.trod enc Try.prog W 0 spare held m 3 ((cs.drop 0).take (Try.prog.cellsOf 3)) = xs[0]? := hf 0 _ rfl
  have f1 : DataW.trod enc Try.prog W 0 spare held m 3 ((cs.drop 1).take (Try.prog.cellsOf 3)) = xs[1]? := hf 1 _ rfl
  have f2 : DataW.trod enc Try.prog W 0 spare held m 3 ((cs.drop 2).take (Try.prog.cellsOf 3)) = xs[2]? := hf 2 _ rfl
  have f3 : DataW.trod enc Try.prog W 0 spare held m 3 ((cs.drop 3).take (Try.prog.cellsOf 3)) = xs[3]? := hf 3 _ rfl
  have f4 : DataW.trod enc Try.prog W 0 spare held m 3 ((cs.drop 4).take (Try.prog.cellsOf 3)) = xs[4]? := hf 4 _ rfl
  have f5 : DataW.trod enc Try.prog W 0 spare held m 3 ((cs.drop 5).take (Try.prog.cellsOf 3)) = xs[5]? := hf 5 _ rfl
  have f6 : DataW.trod enc Try.prog W 0 spare held m 3 ((cs.drop 6).take (Try.prog.cellsOf 3)) = xs[6]? := hf 6 _ rfl
  have f7 : DataW.trod enc Try.prog W 0 spare held m 3 ((cs.drop 7).take (Try.prog.cellsOf 3)) = xs[7]? := hf 7 _ rfl
  have f8 : DataW.trod enc Try.prog W 0 spare held m 3 ((cs.drop 8).take (Try.prog.cellsOf 3)) = xs[8]? := hf 8 _ rfl
  have f9 : DataW.trod enc Try.prog W 0 spare held m 3 ((cs.drop 9).take (Try.prog.cellsOf 3)) = xs[9]? := hf 9 _ rfl
  have f10 : DataW.trod enc Try.prog W 0 spare held m 3 ((cs.drop 10).take (Try.prog.cellsOf 3)) = xs[10]? := hf 10 _ rfl
  have f11 : DataW.trod enc Try.prog W 0 spare held m 3 ((cs.drop 11).take (Try.prog.cellsOf 3)) = xs[11]? := hf 11 _ rfl
  have f12 : DataW.trod enc Try.prog W 0 spare held m 3 ((cs.drop 12).take (Try.prog.cellsOf 3)) = xs[12]? := hf 12 _ rfl
  have f13 : DataW.trod enc Try.prog W 0 spare held m 3 ((cs.drop 13).take (Try.prog.cellsOf 3)) = xs[13]? := hf 13 _ rfl
  have f14 : DataW.trod enc Try.prog W 0 spare held m 3 ((cs.drop 14).take (Try.prog.cellsOf 3)) = xs[14]? := hf 14 _ rfl
  have f15 : DataW.trod enc Try.prog W 0 spare held m 3 ((cs.drop 15).take (Try.prog.cellsOf 3)) = xs[15]? := hf 15 _ rfl
  have f16 : DataW.trod enc Try.prog W 0 spare held m 3 ((cs.drop 16).take (Try.prog.cellsOf 3)) = xs[16]? := hf 16 _ rfl
  simp only [c3] at f0 f1 f2 f3 f4 f5 f6 f7 f8 f9 f10 f11 f12 f13 f14 f15 f16
  have hsz : xs.length = 17 := hxl
  obtain ⟨y0, y1, y2, y3, y4, y5, y6, y7, y8, y9, y10, y11, y12, y13, y14, y15, y16, rfl⟩ : ∃ y0 y1 y2 y3 y4 y5 y6 y7 y8 y9 y10 y11 y12 y13 y14 y15 y16, xs = [y0, y1, y2, y3, y4, y5, y6, y7, y8, y9, y10, y11, y12, y13, y14, y15, y16] := by
    match xs, hsz with
    | [y0, y1, y2, y3, y4, y5, y6, y7, y8, y9, y10, y11, y12, y13, y14, y15, y16], _ => exact ⟨_, _, _, _, _, _, _, _, _, _, _, _, _, _, _, _, _, rfl⟩
  obtain ⟨z0, z1, z2, z3, z4, z5, z6, z7, z8, z9, z10, z11, z12, z13, z14, z15, z16, rfl⟩ : ∃ z0 z1 z2 z3 z4 z5 z6 z7 z8 z9 z10 z11 z12 z13 z14 z15 z16, cs = [z0, z1, z2, z3, z4, z5, z6, z7, z8, z9, z10, z11, z12, z13, z14, z15, z16] := by
    match cs, hl with
    | [z0, z1, z2, z3, z4, z5, z6, z7, z8, z9, z10, z11, z12, z13, z14, z15, z16], _ => exact ⟨_, _, _, _, _, _, _, _, _, _, _, _, _, _, _, _, _, rfl⟩
  obtain ⟨a0, e0, _, _⟩ := DataW.trod_int Try.underlying3 f0
  obtain ⟨a1, e1, _, _⟩ := DataW.trod_int Try.underlying3 f1
  obtain ⟨a2, e2, _, _⟩ := DataW.trod_int Try.underlying3 f2
  obtain ⟨a3, e3, _, _⟩ := DataW.trod_int Try.underlying3 f3
  obtain ⟨a4, e4, _, _⟩ := DataW.trod_int Try.underlying3 f4
  obtain ⟨a5, e5, _, _⟩ := DataW.trod_int Try.underlying3 f5
  obtain ⟨a6, e6, _, _⟩ := DataW.trod_int Try.underlying3 f6
  obtain ⟨a7, e7, _, _⟩ := DataW.trod_int Try.underlying3 f7
  obtain ⟨a8, e8, _, _⟩ := DataW.trod_int Try.underlying3 f8
  obtain ⟨a9, e9, _, _⟩ := DataW.trod_int Try.underlying3 f9
  obtain ⟨a10, e10, _, _⟩ := DataW.trod_int Try.underlying3 f10
  obtain ⟨a11, e11, _, _⟩ := DataW.trod_int Try.underlying3 f11
  obtain ⟨a12, e12, _, _⟩ := DataW.trod_int Try.underlying3 f12
  obtain ⟨a13, e13, _, _⟩ := DataW.trod_int Try.underlying3 f13
  obtain ⟨a14, e14, _, _⟩ := DataW.trod_int Try.underlying3 f14
  obtain ⟨a15, e15, _, _⟩ := DataW.trod_int Try.underlying3 f15
  obtain ⟨a16, e16, _, _⟩ := DataW.trod_int Try.underlying3 f16
  simp at e0 e1 e2 e3 e4 e5 e6 e7 e8 e9 e10 e11 e12 e13 e14 e15 e16
  subst e0 e1 e2 e3 e4 e5 e6 e7 e8 e9 e10 e11 e12 e13 e14 e15 e16
  exact ⟨⟨a0, a1, a2, a3, a4, a5, a6, a7, a8, a9, a10, a11, a12, a13, a14, a15, a16⟩, rfl⟩

set_option maxRecDepth 100000 in
theorem ch_at {H : Type} {enc : TypeId × Value → H} {W : World} {spare : Nat → Bool} {held : Bool} {n : Nat} {cs : List Value} {x : DataW H × List MemPlace}
    (hl : cs.length = 3) (ht : DataW.trod enc Try.prog W 0 spare held n 67 cs = some x) : ∃ q : Int × Int × Int, cs = [.int .i64 q.1, .int .i64 q.2.1, .int .i64 q.2.2] := by
  obtain ⟨xs, m, _, _, _, hxl, hf⟩ := DataW.trod_struct Try.underlying67 ht
  have c3 : Try.prog.cellsOf 3 = 1 := by kernel_rfl
  have f0 : DataW.trod enc Try.prog W 0 spare held m 3 ((cs.drop 0).take (Try.prog.cellsOf 3)) = xs[0]? := hf 0 _ rfl
  have f1 : DataW.trod enc Try.prog W 0 spare held m 3 ((cs.drop 1).take (Try.prog.cellsOf 3)) = xs[1]? := hf 1 _ rfl
  have f2 : DataW.trod enc Try.prog W 0 spare held m 3 ((cs.drop 2).take (Try.prog.cellsOf 3)) = xs[2]? := hf 2 _ rfl
  simp only [c3] at f0 f1 f2
  have hsz : xs.length = 3 := hxl
  obtain ⟨y0, y1, y2, rfl⟩ : ∃ y0 y1 y2, xs = [y0, y1, y2] := by
    match xs, hsz with
    | [y0, y1, y2], _ => exact ⟨_, _, _, rfl⟩
  obtain ⟨z0, z1, z2, rfl⟩ : ∃ z0 z1 z2, cs = [z0, z1, z2] := by
    match cs, hl with
    | [z0, z1, z2], _ => exact ⟨_, _, _, rfl⟩
  obtain ⟨a0, e0, _, _⟩ := DataW.trod_int Try.underlying3 f0
  obtain ⟨a1, e1, _, _⟩ := DataW.trod_int Try.underlying3 f1
  obtain ⟨a2, e2, _, _⟩ := DataW.trod_int Try.underlying3 f2
  simp at e0 e1 e2
  subst e0 e1 e2
  exact ⟨⟨a0, a1, a2⟩, rfl⟩

set_option maxRecDepth 100000 in
theorem sp_at {H : Type} {enc : TypeId × Value → H} {W : World} {spare : Nat → Bool} {held : Bool} {n : Nat} {cs : List Value} {x : DataW H × List MemPlace}
    (hl : cs.length = 4) (ht : DataW.trod enc Try.prog W 0 spare held n 69 cs = some x) : ∃ q : Sp, cs = spL q := by
  obtain ⟨xs, m, _, _, _, hxl, hf⟩ := DataW.trod_struct Try.underlying69 ht
  have c3 : Try.prog.cellsOf 3 = 1 := by kernel_rfl
  have c49 : Try.prog.cellsOf 67 = 3 := by kernel_rfl
  have f0 : DataW.trod enc Try.prog W 0 spare held m 3 ((cs.drop 0).take (Try.prog.cellsOf 3)) = xs[0]? := hf 0 _ rfl
  have f1 : DataW.trod enc Try.prog W 0 spare held m 67 ((cs.drop 1).take (Try.prog.cellsOf 67)) = xs[1]? := hf 1 _ rfl
  simp only [c3, c49] at f0 f1
  have hsz : xs.length = 2 := hxl
  obtain ⟨y0, y1, rfl⟩ : ∃ y0 y1, xs = [y0, y1] := by
    match xs, hsz with
    | [y0, y1], _ => exact ⟨_, _, rfl⟩
  obtain ⟨z0, z1, z2, z3, rfl⟩ : ∃ z0 z1 z2 z3, cs = [z0, z1, z2, z3] := by
    match cs, hl with
    | [z0, z1, z2, z3], _ => exact ⟨_, _, _, _, rfl⟩
  obtain ⟨a0, e0, _, _⟩ := DataW.trod_int Try.underlying3 f0
  obtain ⟨⟨b, c, d⟩, e1⟩ := ch_at rfl (show DataW.trod enc Try.prog W 0 spare held m 67 [z1, z2, z3] = some y1 from f1)
  simp at e0 e1
  obtain ⟨rfl, rfl, rfl⟩ := e1
  subst e0
  exact ⟨⟨a0, b, c, d⟩, rfl⟩

/-- A list of records that is handed in. -/
theorem recs_in {H : Type} {enc : TypeId × Value → H} {W : World} {spare : Nat → Bool} {fuel : Nat} {cs : List Value} {x : DataW H × List MemPlace} {α : Type} {k : Nat} {f : α → List Value} {ty e : TypeId} (hu : Try.prog.underlying ty = some (.slice e)) (ck : Try.prog.cellsOf e = k) (hk : 0 < k)
    (hat : ∀ (n : Nat) (cs : List Value) (x : DataW H × List MemPlace), cs.length = k → DataW.trod enc Try.prog W 0 spare true n e cs = some x → ∃ q : α, cs = f q)
    (hf : DataW.trod enc Try.prog W 0 spare true fuel ty cs = some x) : ∃ (v : Value) (qs : List α), cs = [v] ∧ RecAt k f W v qs ∧ qs.length ≤ 9223372036854775807 ∧ ((x.1 = .nil ∧ qs = []) ∨ ∃ es sp, x.1 = .slice es sp ∧ es.length = qs.length) := by
  rcases Deep.open_slice hu hf with ⟨hcs, hx0⟩ | ⟨a, len, cap, m, n, D, Pl, hcs, _, hl, hm, hmm, hx1, hx⟩
  · subst hcs
    exact ⟨_, [], rfl, ⟨⟨none, 0, rfl, .inl rfl⟩, fun a n c e => by cases e; exact Nat.le_refl _⟩, by simp, .inl ⟨by rw [hx0], rfl⟩⟩
  · subst hcs
    have hlm : len ≤ m := by rw [hmm]; split <;> omega
    rw [ck] at hx
    have hdat : ∃ es sp, x.1 = .slice es sp ∧ es.length = len := by rw [hx1]; exact ⟨_, _, rfl, by simp⟩
    obtain ⟨es, sp, hes, hel⟩ := hdat
    by_cases h0 : len = 0
    · subst h0
      exact ⟨_, [], rfl, ⟨⟨_, _, rfl, .inl rfl⟩, fun a n c e => by cases e; exact hl⟩, by simp, .inr ⟨es, sp, hes, by simpa using hel⟩⟩
    · obtain ⟨b, off, spot⟩ := a
      obtain ⟨cs', hc0, ht0⟩ := hx 0 (by omega)
      have hb := World.cells?_block hc0 (by omega)
      obtain ⟨_, hl0, hce⟩ := World.cells?_some hc0
      have hg := hce 0 (by omega)
      have hspot : spot = none := by
        match cs', hl0 with
        | z :: _, _ => simpa [Addr.add] using World.cell?_spot hg
        | [], h => simp at h; omega
      subst hspot
      rw [addr_add] at hb
      have hq : ∀ i : Fin len, ∃ q : α, ∀ j u, (f q)[j]? = some u → W.cell? ⟨b, off + i * k + j, none⟩ = some u := fun i => by
        obtain ⟨cs', hc1, ht1⟩ := hx i (by omega)
        rw [addr_add] at hc1
        obtain ⟨_, hl1, hce1⟩ := World.cells?_some hc1
        obtain ⟨q, rfl⟩ := hat _ _ _ hl1 ht1
        refine ⟨q, fun j u hu => ?_⟩
        have hj : j < (f q).length := (List.getElem?_eq_some_iff.1 hu).1
        have := hce1 j (by omega)
        rw [addr_add] at this
        exact this.trans hu
      refine ⟨_, List.ofFn (fun i => Classical.choose (hq i)), rfl, ⟨⟨_, _, by simp; exact rfl, .inr ⟨b, off, rfl, hb, fun i hi j u hu => ?_⟩⟩, fun a n c e => by cases e; exact hl⟩, by simp; unfold maxLen at hm; omega, .inr ⟨es, sp, hes, by simpa using hel⟩⟩
      have hi' : i < len := by simpa using hi
      have := Classical.choose_spec (hq ⟨i, hi'⟩) j u (by simpa using hu)
      simpa using this
end Go.Proofs.Ytkhnfmdhdfpdhaa
