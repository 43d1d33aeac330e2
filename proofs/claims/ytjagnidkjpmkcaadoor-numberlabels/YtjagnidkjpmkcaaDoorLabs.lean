/-
  What is proved here: the labels of paragraphs (no program is spoken of), and texts as they lie in memory.
-/
import Derived.Test.YtjagnidkjpmkcaaDoorCount
namespace Go.Proofs.YtjagnidkjpmkcaaDoor
open Go.RowKit Go.Shelf

/-- The label of the i-th paragraph. -/
def lab (ls : List En) (i : Nat) : List UInt8 :=
  match ls[i]? with
  | none => []
  | some x => if x.1 = 0 then [] else labelN x.2.toNat (cnt (ls.take (i + 1)) (x.1 - 1).toNat x.2.toNat)
def labs (ls : List En) : List (List UInt8) := (List.range ls.length).map (lab ls)
def strC (L : List (List UInt8)) : List Value := L.map fun s => .string ⟨s.toArray⟩
/-- The labels of the first ones alone. -/
def begun (ls : List En) (i : Nat) : List (List UInt8) := (List.range ls.length).map fun j => if j < i then lab ls j else []

theorem labs_length (ls : List En) : (labs ls).length = ls.length := by simp [labs]
theorem labs_at (ls : List En) {i : Nat} (h : i < ls.length) : (labs ls)[i]? = some (lab ls i) := by simp [labs, h]
theorem begun_length (ls : List En) (i : Nat) : (begun ls i).length = ls.length := by simp [begun]
theorem strC_length (L : List (List UInt8)) : (strC L).length = L.length := by simp [strC]

theorem begun_zero (ls : List En) : begun ls 0 = List.replicate ls.length [] := by
  apply List.ext_getElem?
  intro j
  simp only [begun, List.getElem?_map, List.getElem?_replicate]
  by_cases h : j < ls.length
  · simp [h]
  · simp [h]
theorem begun_all (ls : List En) : begun ls ls.length = labs ls := by
  apply List.map_congr_left
  intro j hj
  rw [if_pos (List.mem_range.1 hj)]
theorem begun_step (ls : List En) {i : Nat} (hi : i < ls.length) : begun ls (i + 1) = (begun ls i).set i (lab ls i) := by
  apply List.ext_getElem?
  intro j
  rw [List.getElem?_set]
  simp only [begun_length]
  by_cases h : i = j
  · subst h
    rw [if_pos rfl, if_pos hi]
    simp [begun, hi]
  · rw [if_neg h]
    simp only [begun, List.getElem?_map]
    by_cases hj : j < ls.length
    · simp only [List.getElem?_range hj, Option.map_some]
      congr 1
      by_cases h2 : j < i
      · rw [if_pos (by omega), if_pos h2]
      · rw [if_neg (by omega), if_neg h2]
    · rw [List.getElem?_eq_none (by simp; omega)]; rfl
theorem begun_skip (ls : List En) {i : Nat} (hi : i < ls.length) (h0 : ls[i].1 = 0) : begun ls (i + 1) = begun ls i := by
  apply List.map_congr_left
  intro j hj
  by_cases h : j = i
  · subst h
    rw [if_pos (by omega), if_neg (by omega)]
    unfold lab
    rw [List.getElem?_eq_getElem hi]
    simp [h0]
  · by_cases h2 : j < i
    · rw [if_pos (by omega), if_pos h2]
    · rw [if_neg (by omega), if_neg h2]
theorem lab_of (ls : List En) {i : Nat} (hi : i < ls.length) {q lv : Nat} (h1 : ls[i].1 = (q : Int) + 1) (h2 : ls[i].2 = lv) : lab ls i = labelN lv (cnt (ls.take (i + 1)) q lv) := by
  unfold lab
  rw [List.getElem?_eq_getElem hi]
  simp only
  rw [if_neg (by omega), h1, h2]
  simp

/-- Texts, in memory. -/
structure TxAt (W : World) (v : Value) (L : List (List UInt8)) : Prop where
  ex : ∃ a cap, v = .slice a L.length cap ∧ (L = [] ∨ ∃ b o, a = some ⟨b, o, none⟩ ∧ b < W.heap.size ∧ ∀ (i : Nat) (h : i < L.length), W.cell? ⟨b, o + i, none⟩ = some (.string ⟨L[i].toArray⟩))
  few : L.length ≤ 140737488355328

theorem TxAt.below {W W' : World} {v : Value} {L : List (List UInt8)} (h : TxAt W v L) (hb : Below W.heap.size W W') : TxAt W' v L := by
  obtain ⟨a, cap, rfl, h2⟩ := h.ex
  refine ⟨⟨a, cap, rfl, ?_⟩, h.few⟩
  rcases h2 with h2 | ⟨b, o, rfl, hlt, hc⟩
  · exact .inl h2
  · exact .inr ⟨b, o, rfl, Nat.lt_of_lt_of_le hlt hb.size, fun i hi => (hb.cell hlt).trans (hc i hi)⟩

theorem TxAt.of_row {W : World} {B : Nat} {v : Value} {L : List (List UInt8)} (h : W.ownsRow B 9 1 v L.length (strC L)) (hf : L.length ≤ 140737488355328) : TxAt W v L := by
  rcases h.2 with ⟨rfl, h0⟩ | ⟨g, cap, cur, rfl, _, hg, _⟩
  · obtain rfl := List.eq_nil_of_length_eq_zero h0
    exact ⟨⟨_, _, rfl, .inl rfl⟩, hf⟩
  · refine ⟨⟨_, _, rfl, .inr ⟨g, 0, rfl, (Array.getElem?_eq_some_iff.1 hg).1, fun i hi => ?_⟩⟩, hf⟩
    have := h.cells (g := g) rfl i _ (by rw [strC, List.getElem?_map, List.getElem?_eq_getElem hi]; rfl)
    rw [addr_add0] at this
    rw [Nat.zero_add]
    exact this

theorem row9_set {W : World} {B g n cap : Nat} {xs : List Value} (h : W.ownsRow B 9 1 (.slice (some ⟨g, 0, none⟩) n cap) n xs) (i : Nat) (u : Value) : (W.setCell ⟨g, i, none⟩ u).ownsRow B 9 1 (.slice (some ⟨g, 0, none⟩) n cap) n (xs.set i u) := by
  refine ⟨by simpa using h.1, ?_⟩
  rcases h.2 with ⟨hv, _⟩ | ⟨g', cap', cur, hv, hb, hg, hnc, hcm, hcs, ht⟩
  · cases hv
  · cases hv
    refine .inr ⟨g, cap, cur.setIfInBounds i u, rfl, hb, by simp [World.setCell, Array.getElem?_modify, hg], hnc, hcm, by simpa using hcs, ?_⟩
    rw [← ht]
    simp [List.take_set]

theorem strC_set (L : List (List UInt8)) (i : Nat) (s : List UInt8) : (strC L).set i (.string ⟨s.toArray⟩) = strC (L.set i s) := by simp [strC, List.map_set]

end Go.Proofs.YtjagnidkjpmkcaaDoor
