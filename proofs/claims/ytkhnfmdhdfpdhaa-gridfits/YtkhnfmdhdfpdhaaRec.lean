/-
  What is proved here: lists of records, in memory (no program is named).
-/
import Derived.Test.YtkhnfmdhdfpdhaaRow
namespace Go.Proofs.Ytkhnfmdhdfpdhaa
open Go.RowKit Go.Shelf

theorem fm_len {α : Type} {k : Nat} {f : α → List Value} (hf : ∀ a, (f a).length = k) (l : List α) : (l.flatMap f).length = l.length * k := by
  induction l with
  | nil => simp
  | cons p r ih => rw [List.flatMap_cons, List.length_append, ih, hf, List.length_cons, Nat.succ_mul]; omega
theorem fm_get {α : Type} {k : Nat} {f : α → List Value} (hf : ∀ a, (f a).length = k) (ps : List α) {i : Nat} (h : i < ps.length) (j : Nat) (hj : j < k) : (ps.flatMap f)[i * k + j]? = (f ps[i])[j]? := by
  have hs : ps = ps.take i ++ (ps[i] :: ps.drop (i + 1)) := by simp
  conv => lhs; rw [hs]
  have hl : ((ps.take i).flatMap f).length = i * k := by rw [fm_len hf, List.length_take, Nat.min_eq_left (by omega)]
  rw [List.flatMap_append, List.flatMap_cons, List.getElem?_append_right (by omega), hl, List.getElem?_append_left (by rw [hf]; omega)]
  congr 1; omega
/-- A list of records of k cells, in memory. -/
structure RecAt {α : Type} (k : Nat) (f : α → List Value) (W : World) (v : Value) (rs : List α) : Prop where
  ex : ∃ a cap, v = .slice a rs.length cap ∧ (rs = [] ∨ ∃ b o, a = some ⟨b, o, none⟩ ∧ b < W.heap.size ∧ ∀ (i : Nat) (h : i < rs.length) (j : Nat) (u : Value), (f rs[i])[j]? = some u → W.cell? ⟨b, o + i * k + j, none⟩ = some u)
  le : ∀ a n c, v = .slice a n c → n ≤ c
theorem RecAt.below {α : Type} {k : Nat} {f : α → List Value} {W W' : World} {n : Nat} {v : Value} {rs : List α} (h : RecAt k f W v rs) (hb : Below n W W') (hn : W.heap.size ≤ n) : RecAt k f W' v rs := by
  have hle := h.le
  obtain ⟨a, cap, rfl, h2⟩ := h.ex
  refine ⟨⟨a, cap, rfl, ?_⟩, hle⟩
  rcases h2 with h2 | ⟨b, o, rfl, hlt, hc⟩
  · exact .inl h2
  · exact .inr ⟨b, o, rfl, Nat.lt_of_lt_of_le hlt hb.size, fun i hi j u hu => (hb.cell (Nat.lt_of_lt_of_le hlt hn)).trans (hc i hi j u hu)⟩
theorem rec_new {α : Type} {k : Nat} {f : α → List Value} (hf : ∀ a, (f a).length = k) (w : World) (e : TypeId) (rs : List α) : RecAt k f (w.alloc (.cells (rs.flatMap f).toArray e)) (.slice (some ⟨w.heap.size, 0, none⟩) rs.length rs.length) rs := by
  refine ⟨⟨_, _, rfl, .inr ⟨_, 0, rfl, by simp, fun i hi j u hu => ?_⟩⟩, fun a n c e => by cases e; exact Nat.le_refl _⟩
  have hj : j < k := by rw [← hf rs[i]]; exact (List.getElem?_eq_some_iff.1 hu).1
  rw [Lib.cell_of_heap (World.alloc_heap_new w _), Nat.zero_add]
  have := fm_get hf rs hi j hj
  rw [hu] at this
  simpa using this
end Go.Proofs.Ytkhnfmdhdfpdhaa
