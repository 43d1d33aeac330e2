/-
  What is proved here: what stays of sheets, the program's and the document's own, when another one turns (for StyleScript).
-/
import Derived.Test.YtifkelpgpdgenaaXStyRow
import Derived.Test.YtifkelpgpdgenaaXClone
namespace Go.Proofs.Ytifkelpgpdgenaa
open Go.RowKit Go.Shelf

variable {X : Nat → Prop}

theorem only_cell2 {b g k : Nat} {w w' : World} (h : Only b w w') (hg : g < w.heap.size) (hne : g ≠ b) : w'.cell? ⟨g, k, none⟩ = w.cell? ⟨g, k, none⟩ := by
  have := h.block g hg (by simp; exact hne)
  simp only [World.cell?, this]

/-- A block that has no number. -/
def NoInts (w : World) (b : Nat) : Prop := ∀ j x, w.cell? ⟨b, j, none⟩ ≠ some (.int .i64 x)
theorem NoCells.noInts {w : World} {b : Nat} (h : NoCells w b) : NoInts w b := fun j x e => by
  unfold World.cell? at e
  simp only at e
  split at e
  · rename_i h1; exact h _ _ _ h1
  · cases e
theorem SetsAt.only4 {W W' : World} {b : Nat} {v : Value} {qs : List (Int × Int)} (h : SetsAt W v qs) (hm : NoInts W b) (ho : Only b W W') : SetsAt W' v qs := by
  obtain ⟨a, cap, rfl, h2⟩ := h.ex
  refine ⟨⟨a, cap, rfl, ?_⟩, h.few⟩
  rcases h2 with h2 | ⟨g, o, rfl, hlt, hc⟩
  · exact .inl h2
  · refine .inr ⟨g, o, rfl, Nat.lt_of_lt_of_le hlt ho.size, fun i hi => ?_⟩
    obtain ⟨c0, c1⟩ := hc i hi
    have hg : g ≠ b := fun e => hm _ _ (e ▸ c0)
    exact ⟨(only_cell2 ho hlt hg).trans c0, (only_cell2 ho hlt hg).trans c1⟩

/-- Another sheet's block, or another row, may turn. -/
theorem SheetAt.only4 {w w' : World} {t b n r : Nat} {S : Sh} (h : SheetAt X w t b n S) (ho : Only r w w') (hb : b ≠ r) (ht : t ≠ r) (hm : NoInts w r) : SheetAt X w' t b n S := by
  obtain ⟨D, h1, h2, h3⟩ := h.own
  exact ⟨(ho.block t h.lt (by simp; exact ht)).trans h.obj, ⟨D, h1.kept ho (by simp; exact hb), h2, fun s => (h3 s).mono fun v qs hq => hq.only4 hm ho⟩, h.few⟩

/-- The document's own styles where a block turns that is none of theirs. -/
theorem StylesAt.keep {W W' : World} {v : Value} {T : Stys} {r : Nat} (h : StylesAt X W v T) (ho : Only r W W') (hs : ∀ v qs, SetsX X W v qs → SetsAt W' v qs) (hn : ∀ j s, W.cell? ⟨r, j, none⟩ ≠ some (.string s)) : StylesAt X W' v T := by
  obtain ⟨a, cap, rfl, h2⟩ := h.ex
  refine ⟨⟨a, cap, rfl, ?_⟩, h.few, h.fit⟩
  rcases h2 with h2 | ⟨b, o, rfl, hlt, hnb, hc⟩
  · exact .inl h2
  · by_cases hT : T = []
    · exact .inl hT
    have hbr : b ≠ r := fun e => by
      obtain ⟨c0, _, _⟩ := hc 0 (List.length_pos_iff.2 hT)
      exact hn _ _ (e ▸ c0)
    refine .inr ⟨b, o, rfl, Nat.lt_of_lt_of_le hlt ho.size, hnb, fun i hi => ?_⟩
    obtain ⟨c0, c1, a', cap', c2, hset⟩ := hc i hi
    exact ⟨(only_cell2 ho hlt hbr).trans c0, (only_cell2 ho hlt hbr).trans c1, a', cap', (only_cell2 ho hlt hbr).trans c2, ⟨hs _ _ hset, hset.av⟩⟩
theorem RefAt.keep {W W' : World} {g r : Nat} {T : Stys} (h : RefAt X W g T) (ho : Only r W W') (hgr : g ≠ r) (hs : ∀ v qs, SetsX X W v qs → SetsAt W' v qs) (hn : ∀ j s, W.cell? ⟨r, j, none⟩ ≠ some (.string s)) : RefAt X W' g T := by
  obtain ⟨v, hv, hS⟩ := h.ex
  obtain ⟨u, hu⟩ := h.obj
  exact ⟨⟨v, (only_cell2 ho h.lt hgr).trans hv, hS.keep ho hs hn⟩, Nat.lt_of_lt_of_le h.lt ho.size, h.nx, u, (ho.block g h.lt (by simp; exact hgr)).trans hu⟩
/-- A map turns. -/
theorem RefAt.only2 {W W' : World} {g r : Nat} {T : Stys} (h : RefAt X W g T) (ho : Only r W W') (hm : NoCells W r) : RefAt X W' g T := by
  have hgr : g ≠ r := fun e => by
    obtain ⟨v, hv⟩ := h.obj
    exact hm _ _ _ (e ▸ hv)
  refine h.keep ho hgr (fun v qs hq => hq.toSetsAt.only4 hm.noInts ho) fun j s e => ?_
  unfold World.cell? at e
  simp only at e
  split at e
  · rename_i h1; exact hm _ _ _ h1
  · cases e

/-- What the block of a sheet of the document's own has. -/
theorem obj_cell {W : World} {g : Nat} {v : Value} (h : W.heap[g]? = some (.cells #[v] 50 (0, 0))) {j : Nat} {u : Value} (hc : W.cell? ⟨g, j, none⟩ = some u) : u = v := by
  rw [Lib.cell_of_heap h] at hc
  cases j with
  | zero => simpa using hc.symm
  | succ j => simp at hc
theorem RefAt.noInts {W : World} {g : Nat} {T : Stys} (h : RefAt X W g T) : NoInts W g ∧ ∀ j s, W.cell? ⟨g, j, none⟩ ≠ some (.string s) := by
  obtain ⟨u, hu⟩ := h.obj
  obtain ⟨v, hv, hS⟩ := h.ex
  obtain ⟨a, cap, rfl, _⟩ := hS.ex
  have := obj_cell hu hv
  subst this
  exact ⟨fun j x e => (by have := obj_cell hu e; cases this), fun j s e => (by have := obj_cell hu e; cases this)⟩

/-- New styles are stored. -/
theorem RefAt.store {W W1 : World} {g base : Nat} {T : Stys} {u : Value} {R : List Ent} (h : RefAt X W g T) (hb : Below W.heap.size W W1) (hr : W1.ownsRow base 88 3 u R.length (stRow R)) (hbase : W.heap.size ≤ base) (hf : R.length ≤ 9223372036854775807) (hX : XL X W) (hok : EntsOk X W1 R) :
    RefAt X (W1.setCell ⟨g, 0, none⟩ u) g (R.map (·.1)) ∧ Only g W (W1.setCell ⟨g, 0, none⟩ u) := by
  have h1 := h.below hb
  obtain ⟨u0, ho⟩ := h1.obj
  have hs := heap_setCell_same W1 g 0 _ 50 u ho
  have hon : Only g W1 (W1.setCell ⟨g, 0, none⟩ u) := ⟨rfl, rfl, rfl, by simp, fun k _ hne => Below.heap_setCell _ _ _ k (by intro e; exact hne (by rw [e]))⟩
  have hst : StylesAt X W1 u (R.map (·.1)) := styles_of_row hr hf (fun b hx => Nat.lt_of_lt_of_le (hX b hx) hbase) hok
  have hst2 : StylesAt X (W1.setCell ⟨g, 0, none⟩ u) u (R.map (·.1)) := hst.keep hon (fun v qs hq => hq.toSetsAt.only4 h1.noInts.1 hon) h1.noInts.2
  have hs' : (W1.setCell ⟨g, 0, none⟩ u).heap[g]? = some (.cells #[u] 50 (0, 0)) := hs
  refine ⟨⟨⟨u, by rw [Lib.cell_of_heap hs']; rfl, hst2⟩, by simpa using h1.lt, h.nx, u, hs'⟩, (only_of_below hb).trans hon⟩

/-- A row of settings that they keep clear of may turn. -/
theorem RefAt.poke {W W' : World} {g r : Nat} {T : Stys} (h : RefAt X W g T) (hr : X r) (ho : Only r W W') (hn : ∀ j s, W.cell? ⟨r, j, none⟩ ≠ some (.string s)) : RefAt X W' g T :=
  h.keep ho (fun e => h.nx (e ▸ hr)) (fun _ _ hq => hq.poke hr ho) hn
theorem RefAt.change {W : World} {g : Nat} {T : Stys} (h : RefAt X W g T) {Y : Nat → Prop} (hY : ∀ b, Y b → W.heap.size ≤ b) : RefAt Y W g T := by
  have hlt : ∀ b, b < W.heap.size → ¬ Y b := fun b hb hy => by have := hY b hy; omega
  obtain ⟨v, hv, hS⟩ := h.ex
  refine ⟨⟨v, hv, ?_⟩, h.lt, hlt _ h.lt, h.obj⟩
  obtain ⟨a, cap, rfl, h2⟩ := hS.ex
  refine ⟨⟨a, cap, rfl, ?_⟩, hS.few, hS.fit⟩
  rcases h2 with h2 | ⟨b, o, rfl, hb, hnb, hc⟩
  · exact .inl h2
  · refine .inr ⟨b, o, rfl, hb, hlt b hb, fun i hi => ?_⟩
    obtain ⟨c0, c1, a', cap', c2, hset⟩ := hc i hi
    refine ⟨c0, c1, a', cap', c2, ⟨hset.toSetsAt, ?_⟩⟩
    obtain ⟨a1, cap1, he, h3⟩ := hset.ex
    cases he
    rcases h3 with h3 | ⟨g', o', rfl, hg', _⟩
    · exact .inl h3
    · exact .inr fun b o l c hv => by cases hv; exact hlt _ hg'
end Go.Proofs.Ytifkelpgpdgenaa
