/-
  What is proved here: the document's own sheets stay as they are where nothing below is written, and which styles they have (for StyleScript).
-/
import Derived.Test.YtifkelpgpdgenaaXRefD
namespace Go.Proofs.Ytifkelpgpdgenaa
open Go.RowKit Go.Shelf

variable {X : Nat → Prop}

theorem StylesAt.below {W W' : World} {v : Value} {T : List (Str × Sty)} (h : StylesAt X W v T) (hb : Below W.heap.size W W') : StylesAt X W' v T := by
  obtain ⟨a, cap, rfl, h2⟩ := h.ex
  refine ⟨⟨a, cap, rfl, ?_⟩, h.few, h.fit⟩
  rcases h2 with h2 | ⟨b, o, rfl, hlt, hnb, hc⟩
  · exact .inl h2
  · refine .inr ⟨b, o, rfl, Nat.lt_of_lt_of_le hlt hb.size, hnb, fun i hi => ?_⟩
    obtain ⟨c0, c1, a', cap', c2, hs⟩ := hc i hi
    exact ⟨(hb.cell hlt).trans c0, (hb.cell hlt).trans c1, a', cap', (hb.cell hlt).trans c2, ⟨hs.toSetsAt.below hb, hs.av⟩⟩
theorem RefAt.below {W W' : World} {g : Nat} {T : List (Str × Sty)} (h : RefAt X W g T) (hb : Below W.heap.size W W') : RefAt X W' g T := by
  obtain ⟨v, hv, hS⟩ := h.ex
  exact ⟨⟨v, (hb.cell h.lt).trans hv, hS.below hb⟩, Nat.lt_of_lt_of_le h.lt hb.size, h.nx, h.obj.imp fun v hv => (hb.block g h.lt).trans hv⟩

/-- Which styles a list has. -/
noncomputable def shOf (T : List (Str × Sty)) : Sh := by
  classical exact fun s => (T.find? fun x => decide (x.1 = s)).map (·.2)
theorem shOf_none {T : List (Str × Sty)} {s : Str} (h : ∀ x ∈ T, x.1 ≠ s) : shOf T s = none := by
  classical
  unfold shOf
  simp only [Option.map_eq_none_iff, List.find?_eq_none, decide_eq_true_eq]
  exact h
theorem shOf_some {T : List (Str × Sty)} {s : Str} {i : Nat} (hi : i < T.length) (h : T[i].1 = s) (hf : ∀ (j : Nat) (hj : j < i), (T[j]'(by omega)).1 ≠ s) : shOf T s = some T[i].2 := by
  classical
  unfold shOf
  have : T.find? (fun x => decide (x.1 = s)) = some T[i] := by
    rw [List.find?_eq_some_iff_getElem]
    exact ⟨by simp [h], i, hi, rfl, fun j hj => by simpa using hf j hj⟩
  simp [this]

/-- What At answers, by the styles that there are. -/
theorem refAt_sh (g : Nat) (T : List (Str × Sty)) (s : Str) (w : World) (hR : RefAt X w g T) :
    Calls Try.prog 44 #[.pointer (some ⟨g, 0, none⟩), .string s] w fun e w' => w' = w ∧
      ((∃ (i : Nat) (h : i < T.length), e = .returned (.int .i64 i) ∧ T[i].1 = s ∧ shOf T s = some T[i].2) ∨
        (e = .returned (.int .i64 (-1)) ∧ shOf T s = none)) := by
  refine (refAt_any g T s w hR).mono ?_
  rintro e w' ⟨rfl, ⟨i, hi, rfl, h1, h2⟩ | ⟨rfl, h1⟩⟩
  · exact ⟨rfl, .inl ⟨i, hi, rfl, h1, shOf_some hi h1 h2⟩⟩
  · exact ⟨rfl, .inr ⟨rfl, shOf_none h1⟩⟩
end Go.Proofs.Ytifkelpgpdgenaa
