/-
  What is proved here: lists of looks that are written over, cut and put together (for SpanEdits).
-/
import Derived.Test.YtjakmekifpbldaaWalkQ
namespace Go.Proofs.Ytjakmekifpbldaa
open Go.RowKit Go.Shelf

theorem CharsAt.base {W : World} {b b' : Nat} {v : Value} {L : List Ch} (h : CharsAt W b v L) (hb : b' ≤ b) : CharsAt W b' v L := ownsRow_base h.out hb
/-- The block of a list of looks. -/
theorem CharsAt.block {W : World} {b g n cap : Nat} {L : List Ch} (h : CharsAt W b (.slice (some ⟨g, 0, none⟩) n cap) L) : ∃ cur, W.heap[g]? = some (.cells cur 23 (0, 0)) := by
  rcases h.out.2 with ⟨hv, _⟩ | ⟨g', cap', cur, hv, hb, hg, _⟩
  · cases hv
  · cases hv; exact ⟨cur, hg⟩
theorem CharsAt.cap {W : World} {b g n cap : Nat} {L : List Ch} (h : CharsAt W b (.slice (some ⟨g, 0, none⟩) n cap) L) : L.length ≤ cap := by
  rcases h.out.2 with ⟨hv, _⟩ | ⟨g', cap', cur, hv, hb, hg, hn, _⟩
  · cases hv
  · cases hv; exact hn
theorem LooksAt.chars {t g : Nat} {sv : Value} {L : List Ch} {m : Ch} {W : World} {cur : Array Value} (h : LooksAt t sv L m W) (hg : W.heap[g]? = some (.cells cur 23 (0, 0))) : t ≠ g ∧ ∀ g', sv.ownBlock = some g' → g' ≠ g := by
  refine ⟨fun e => ?_, fun g' hg' e => ?_⟩
  · have := h.obj
    rw [e, hg] at this
    injection this with this
    injection this with _ h2 _
    cases h2
  · rcases h.row.2 with ⟨rfl, _⟩ | ⟨g2, cap, cur2, rfl, _, hg2, _⟩
    · cases hg'
    · cases hg'
      have e' : g2 = g := e
      rw [e', hg] at hg2
      injection hg2 with this
      injection this with _ h2 _
      cases h2
theorem CharsAt.only {W W' : World} {b t : Nat} {v : Value} {L L' : List Ch} {sv : Value} {m : Ch} (h : CharsAt W b v L) (hL : LooksAt t sv L' m W) (ho : Only t W W') : CharsAt W' b v L := by
  refine ⟨h.out.1, ?_⟩
  rcases h.out.2 with hn | ⟨g, cap, cur, rfl, hb', hg, r⟩
  · exact .inl hn
  · exact .inr ⟨g, cap, cur, rfl, hb', (ho.block g (Array.getElem?_eq_some_iff.1 hg).1 (by
      intro e
      have e' : g = t := by injection e
      exact (hL.chars hg).1 e'.symm)).trans hg, r⟩

theorem chRow_set (L : List Ch) {j : Nat} (hj : j < L.length) (c : Ch) : (((chRow L).set (j * 3) (.int .i64 c.s)).set (j * 3 + 1) (.int .i64 c.t)).set (j * 3 + 2) (.int .i64 c.k) = chRow (L.set j c) := by
  have hs : L = L.take j ++ (L[j] :: L.drop (j + 1)) := by simp
  have hl : (chRow (L.take j)).length = j * 3 := by rw [chRow_length, List.length_take, Nat.min_eq_left (by omega)]
  have h1 : chRow L = chRow (L.take j) ++ (chCells L[j] ++ chRow (L.drop (j + 1))) := by
    conv => lhs; rw [hs]
    rw [chRow_append]; unfold chRow; rw [List.flatMap_cons]
  have h2 : chRow (L.set j c) = chRow (L.take j) ++ (chCells c ++ chRow (L.drop (j + 1))) := by
    rw [List.set_eq_take_append_cons_drop, if_pos hj, chRow_append]; unfold chRow; rw [List.flatMap_cons]
  rw [h1, h2]
  rw [List.set_append_right _ _ (by omega), hl, Nat.sub_self]
  rw [List.set_append_right _ _ (by rw [hl]; omega), hl]
  rw [List.set_append_right _ _ (by rw [hl]; omega), hl]
  have e1 : j * 3 + 1 - j * 3 = 1 := by omega
  have e2 : j * 3 + 2 - j * 3 = 2 := by omega
  rw [e1, e2]
  simp [chCells]

/-- One look is written over. -/
theorem CharsAt.store {W : World} {b g n cap j : Nat} {L : List Ch} (h : CharsAt W b (.slice (some ⟨g, 0, none⟩) n cap) L) (hn : n = L.length) (hj : j < L.length) (c : Ch) :
    CharsAt (((W.setCell ⟨g, j * 3, none⟩ (.int .i64 c.s)).setCell ⟨g, j * 3 + 1, none⟩ (.int .i64 c.t)).setCell ⟨g, j * 3 + 2, none⟩ (.int .i64 c.k)) b (.slice (some ⟨g, 0, none⟩) n cap) (L.set j c) ∧
    Only g W (((W.setCell ⟨g, j * 3, none⟩ (.int .i64 c.s)).setCell ⟨g, j * 3 + 1, none⟩ (.int .i64 c.t)).setCell ⟨g, j * 3 + 2, none⟩ (.int .i64 c.k)) := by
  subst hn
  obtain ⟨k1, o1⟩ := h.out.stored (j * 3) (.int .i64 c.s)
  obtain ⟨k2, o2⟩ := k1.stored (j * 3 + 1) (.int .i64 c.t)
  obtain ⟨k3, o3⟩ := k2.stored (j * 3 + 2) (.int .i64 c.k)
  rw [chRow_set L hj c] at k3
  refine ⟨?_, Only.trans (Only.trans (show Only g W _ from o1) (show Only g _ _ from o2)) (show Only g _ _ from o3)⟩
  show World.ownsRow _ _ _ _ _ _ _
  rw [List.length_set]
  exact k3

theorem setL_zero (L : List Ch) {p : Nat} (c : Ch) (hp : p ≤ L.length) : setL L p 0 c = L := by
  have := sub_split L (Nat.zero_le p) hp (Nat.le_refl _)
  rw [sub_all] at this
  simp [setL, ← this]
theorem setL_get (L : List Ch) (p n : Nat) (c : Ch) (h : p + n ≤ L.length) (i : Nat) : (setL L p n c)[i]? = if p ≤ i ∧ i < p + n then some c else L[i]? := by
  have h0 := sub_length L (a := 0) (b := p) (by omega)
  unfold setL
  rw [List.append_assoc]
  by_cases h1 : i < p
  · rw [List.getElem?_append_left (by omega), if_neg (by omega), sub_get L (by omega)]; simp
  · rw [List.getElem?_append_right (by omega), h0]
    by_cases h2 : i < p + n
    · rw [List.getElem?_append_left (by simp; omega), if_pos (by omega), List.getElem?_replicate, if_pos (by omega)]
    · rw [List.getElem?_append_right (by simp; omega), if_neg (by omega), List.length_replicate]
      by_cases h3 : i < L.length
      · rw [sub_get L (by omega)]; congr 1; omega
      · rw [List.getElem?_eq_none (by rw [sub_length L (Nat.le_refl _)]; omega), List.getElem?_eq_none (by omega)]
theorem setL_succ (L : List Ch) (p n : Nat) (c : Ch) (h : p + n + 1 ≤ L.length) : (setL L p n c).set (p + n) c = setL L p (n + 1) c := by
  apply List.ext_getElem?
  intro i
  rw [List.getElem?_set, setL_get L p (n + 1) c (by omega), setL_get L p n c (by omega), setL_length L c (by omega)]
  by_cases h1 : p + n = i
  · rw [if_pos h1, if_pos (by omega), if_pos (by omega)]
  · rw [if_neg h1]
    by_cases h2 : p ≤ i ∧ i < p + n
    · rw [if_pos h2, if_pos (by omega)]
    · rw [if_neg h2, if_neg (by omega)]
theorem CharsAt.cellsAll {W : World} {b g n cap : Nat} {L : List Ch} (h : CharsAt W b (.slice (some ⟨g, 0, none⟩) n cap) L) : ∀ j u, (chRow L)[j]? = some u → W.cell? ⟨g, j, none⟩ = some u := fun j u hu => by
  have := h.out.cells (g := g) rfl j u hu
  rwa [addr_add0] at this
theorem chRow_sub (L : List Ch) {p : Nat} (hp : p ≤ L.length) : chRow L = chRow (sub L 0 p) ++ chRow (sub L p L.length) := by
  rw [← chRow_append, ← sub_split L (Nat.zero_le _) hp (Nat.le_refl _), sub_all]
theorem CharsAt.take {W : World} {b g n cap p : Nat} {L : List Ch} (h : CharsAt W b (.slice (some ⟨g, 0, none⟩) n cap) L) (hp : p ≤ L.length) (c : Nat) : Srcs W 3 (.slice (some ⟨g, 0, none⟩) p c) p (chRow (sub L 0 p)) := by
  refine ⟨by rw [chRow_length, sub_length L hp, Nat.sub_zero], chRow_one _, .inr ⟨_, _, rfl, fun j u hu => ?_⟩⟩
  rw [addr_add0]
  refine h.cellsAll j u ?_
  rw [chRow_sub L hp, List.getElem?_append_left (List.getElem?_eq_some_iff.1 hu).1]
  exact hu
theorem CharsAt.drop {W : World} {b g n cap p : Nat} {L : List Ch} (h : CharsAt W b (.slice (some ⟨g, 0, none⟩) n cap) L) (hp : p ≤ L.length) (c : Nat) : Srcs W 3 (.slice (some ⟨g, p * 3, none⟩) (L.length - p) c) (L.length - p) (chRow (sub L p L.length)) := by
  refine ⟨by rw [chRow_length, sub_length L (Nat.le_refl _)], chRow_one _, .inr ⟨_, _, rfl, fun j u hu => ?_⟩⟩
  rw [addr_add]
  refine h.cellsAll _ u ?_
  have hl : (chRow (sub L 0 p)).length = p * 3 := by rw [chRow_length, sub_length L hp, Nat.sub_zero]
  rw [chRow_sub L hp, List.getElem?_append_right (by omega), hl, Nat.add_sub_cancel_left]
  exact hu
theorem CharsAt.drop0 {W : World} {g p : Nat} {L : List Ch} (hp : L.length - p = 0) (c : Nat) : Srcs W 3 (.slice (some ⟨g, 0, none⟩) (L.length - p) c) (L.length - p) (chRow (sub L p L.length)) := by
  refine ⟨by rw [chRow_length, sub_length L (Nat.le_refl _)], chRow_one _, .inr ⟨_, _, rfl, fun j u hu => ?_⟩⟩
  have := (List.getElem?_eq_some_iff.1 hu).1
  rw [chRow_length, sub_length L (Nat.le_refl _), hp] at this
  omega
theorem srcs1 (w : World) (x0 x1 x2 : Int) (e : TypeId) : Srcs (w.alloc (.cells #[.int .i64 x0, .int .i64 x1, .int .i64 x2] e)) 3 (.slice (some ⟨w.heap.size, 0, none⟩) 1 1) 1 [.int .i64 x0, .int .i64 x1, .int .i64 x2] := by
  refine ⟨rfl, by intro u hu; simp at hu; rcases hu with rfl | rfl | rfl <;> rfl, .inr ⟨_, _, rfl, fun j u hu => ?_⟩⟩
  rw [addr_add0, Lib.cell_of_heap (heap_new w _)]
  match j, hu with
  | 0, hu => simpa using hu
  | 1, hu => simpa using hu
  | 2, hu => simpa using hu
  | j + 3, hu => simp at hu
theorem charsAt_of {W : World} {b n : Nat} {v : Value} {L : List Ch} {xs : List Value} (h : W.ownsRow b 23 3 v n xs) (hn : n = L.length) (hx : xs = chRow L) : CharsAt W b v L := by subst hn hx; exact h
end Go.Proofs.Ytjakmekifpbldaa
