/-
  What is proved here: paragraphs that are handed in, as they lie in memory; parts of them; and rows of paragraphs of the call's own.
-/
import Derived.Test.YtjagnidkjpmkcaaDoorAwake
import Derived.Test.YtjagnidkjpmkcaaDoorCounts
import Derived.Test.YtjagnidkjpmkcaaDoorOpen
import Derived.Deep.Slices
namespace Go.Proofs.YtjagnidkjpmkcaaDoor
open Go.ChangeShapes Go.WideShapes Go.ChangeAt Go.RowKit

theorem pair_at {H : Type} {enc : TypeId × Value → H} {W : World} {spare : Nat → Bool} {held : Bool} {n : Nat} {cs : List Value} {x : DataW H × List MemPlace}
    (hl : cs.length = 2) (ht : DataW.trod enc Tryd.prog W 0 spare held n 37 cs = some x) : ∃ c : En, cs = [.int .i64 c.1, .int .i64 c.2] := by
  obtain ⟨xs, m, _, _, _, hxl, hf⟩ := DataW.trod_struct Tryd.underlying37 ht
  have c3 : Tryd.prog.cellsOf 3 = 1 := by kernel_rfl
  have f0 : DataW.trod enc Tryd.prog W 0 spare held m 3 ((cs.drop 0).take (Tryd.prog.cellsOf 3)) = xs[0]? := hf 0 _ rfl
  have f1 : DataW.trod enc Tryd.prog W 0 spare held m 3 ((cs.drop 1).take (Tryd.prog.cellsOf 3)) = xs[1]? := hf 1 _ rfl
  simp only [c3] at f0 f1
  have hsz : xs.length = 2 := hxl
  obtain ⟨y0, y1, rfl⟩ : ∃ y0 y1, xs = [y0, y1] := by
    match xs, hsz with
    | [y0, y1], _ => exact ⟨_, _, rfl⟩
  obtain ⟨z0, z1, rfl⟩ : ∃ y0 y1, cs = [y0, y1] := by
    match cs, hl with
    | [y0, y1], _ => exact ⟨_, _, rfl⟩
  obtain ⟨a, e0, _, _⟩ := DataW.trod_int Tryd.underlying3 f0
  obtain ⟨b, e1, _, _⟩ := DataW.trod_int Tryd.underlying3 f1
  simp at e0 e1
  subst e0 e1
  exact ⟨(a, b), rfl⟩

theorem open_entry {H : Type} {enc : TypeId × Value → H} {W : World} {v : Value} {d : DataW H} {ps : List MemPlace} {base : Nat} (hok : Value.okWide Tryd.prog W .any base 37 v)
    (h : DataW.Trod enc Tryd.prog W 0 (fun _ => true) true 37 v d ps) : ∃ a b : Int, v = .agg #[.int .i64 a, .int .i64 b] := by
  obtain ⟨cs, rfl, hsz⟩ := okWide_struct Tryd.underlying37 hok
  obtain ⟨fuel, hf⟩ := h
  have c23 : Tryd.prog.cellsOf 37 = 2 := by kernel_rfl
  obtain ⟨c, hc⟩ := pair_at (cs := cs.toList) (by rw [c23] at hsz; simpa using hsz) hf
  exact ⟨c.1, c.2, by rw [← hc]⟩

theorem en_at {H : Type} {enc : TypeId × Value → H} {W : World} {spare : Nat → Bool} {held : Bool} {n : Nat} {b o : Nat} {cs : List Value} {x : DataW H × List MemPlace}
    (hc : W.cells? 0 ⟨b, o, none⟩ 2 = some cs) (ht : DataW.trod enc Tryd.prog W 0 spare held n 37 cs = some x) :
    ∃ q : En, W.cell? ⟨b, o, none⟩ = some (.int .i64 q.1) ∧ W.cell? ⟨b, o + 1, none⟩ = some (.int .i64 q.2) := by
  obtain ⟨_, hl, hce⟩ := World.cells?_some hc
  obtain ⟨c, rfl⟩ := pair_at hl ht
  have g0 := hce 0 (by omega)
  have g1 := hce 1 (by omega)
  simp [Addr.add] at g0 g1
  exact ⟨c, g0, g1⟩

theorem entries_in {H : Type} {enc : TypeId × Value → H} {W : World} {a : Option Addr} {len cap : Nat} {d : DataW H} {ps : List MemPlace}
    (h : DataW.Trod enc Tryd.prog W 0 (fun _ => true) true 28 (.slice a len cap) d ps) : ∃ ls : List En, len = ls.length ∧ ls.length ≤ 9223372036854775807 ∧ ls.length ≤ cap ∧ (ls.length ≤ 140737488355328 → EnAt W (.slice a ls.length cap) ls) := by
  obtain ⟨fuel, hf⟩ := h
  have c61 : Tryd.prog.cellsOf 37 = 2 := by kernel_rfl
  rcases Deep.open_slice Tryd.underlying28 hf with ⟨hcs, _⟩ | ⟨x, l, c, m, n, D, Pl, hcs, _, hl, hm, hmm, _, hx⟩
  · simp [Value.cells] at hcs
    exact ⟨[], hcs.2.1, by simp, by simp, fun hf => ⟨⟨a, cap, rfl, .inl rfl⟩, hf⟩⟩
  · simp [Value.cells] at hcs
    obtain ⟨rfl, rfl, rfl⟩ := hcs
    simp only [if_true] at hmm
    subst hmm
    rw [c61] at hx
    by_cases h0 : len = 0
    · subst h0
      exact ⟨[], rfl, by simp, by simp, fun hf => ⟨⟨_, _, rfl, .inl rfl⟩, hf⟩⟩
    · obtain ⟨b, off, spot⟩ := x
      obtain ⟨cs', hc0, ht0⟩ := hx 0 (by omega)
      have hb := World.cells?_block hc0 (by omega)
      obtain ⟨_, hl0, hce⟩ := World.cells?_some hc0
      have hg := hce 0 (by omega)
      have hspot : spot = none := by
        match cs', hl0 with
        | z :: _, _ => simpa [Addr.add] using World.cell?_spot hg
      subst hspot
      have hq : ∀ i : Fin len, ∃ q : En, W.cell? ⟨b, off + i * 2, none⟩ = some (.int .i64 q.1) ∧ W.cell? ⟨b, off + i * 2 + 1, none⟩ = some (.int .i64 q.2) := fun i => by
        obtain ⟨cs', hc1, ht1⟩ := hx i (by omega)
        rw [addr_add] at hc1
        exact en_at hc1 ht1
      refine ⟨List.ofFn (fun i => Classical.choose (hq i)), by simp, by simp; unfold maxLen at hm; omega, by simp; omega, fun hf => ⟨⟨_, _, rfl, .inr ⟨b, off, rfl, hb, fun i hi => ?_⟩⟩, hf⟩⟩
      have hi' : i < len := by simpa using hi
      have := Classical.choose_spec (hq ⟨i, hi'⟩)
      simpa using this

theorem EnAt.take {W : World} {a : Option Addr} {ls : List En} {cap k : Nat} (h : EnAt W (.slice a ls.length cap) ls) (hk : k ≤ ls.length) (cap' : Nat) : EnAt W (.slice a k cap') (ls.take k) := by
  obtain ⟨a', cap1, e, h2⟩ := h.ex
  cases e
  refine ⟨⟨a, cap', by rw [List.length_take, Nat.min_eq_left hk], ?_⟩, by have := h.few; rw [List.length_take]; omega⟩
  rcases h2 with h2 | ⟨b, o, rfl, hlt, hc⟩
  · exact .inl (by rw [h2]; simp)
  · refine .inr ⟨b, o, rfl, hlt, fun i hi => ?_⟩
    rw [List.getElem_take]
    exact hc i (by rw [List.length_take] at hi; omega)

/-- The cells of paragraphs. -/
def enC (ls : List En) : List Value := ls.flatMap fun x => [.int .i64 x.1, .int .i64 x.2]
theorem enC_length (ls : List En) : (enC ls).length = ls.length * 2 := by
  induction ls with
  | nil => rfl
  | cons p r ih => simp [enC, List.flatMap_cons] at ih ⊢; omega
theorem enC_append (a b : List En) : enC (a ++ b) = enC a ++ enC b := by simp [enC]
theorem enC_one (ls : List En) : ∀ u ∈ enC ls, u.oneCell' = true := by
  intro u hu
  obtain ⟨p, _, hp⟩ := List.mem_flatMap.1 hu
  simp at hp
  rcases hp with rfl | rfl <;> rfl
theorem enC_get (ls : List En) {i : Nat} (h : i < ls.length) : (enC ls)[i * 2]? = some (.int .i64 ls[i].1) ∧ (enC ls)[i * 2 + 1]? = some (.int .i64 ls[i].2) := by
  have hs : ls = ls.take i ++ (ls[i] :: ls.drop (i + 1)) := by simp
  have ha : enC ls = enC (ls.take i) ++ ([.int .i64 ls[i].1, .int .i64 ls[i].2] ++ enC (ls.drop (i + 1))) := by
    conv => lhs; rw [hs]
    rw [enC_append]; rfl
  have hl : (enC (ls.take i)).length = i * 2 := by rw [enC_length, List.length_take, Nat.min_eq_left (by omega)]
  rw [ha]
  exact ⟨by rw [List.getElem?_append_right (by omega), hl, Nat.sub_self]; rfl, by rw [List.getElem?_append_right (by omega), hl, show i * 2 + 1 - i * 2 = 1 by omega]; rfl⟩

theorem en_srcs {W : World} {v : Value} {ls : List En} (h : EnAt W v ls) : Srcs W 2 v ls.length (enC ls) := by
  refine ⟨enC_length ls, enC_one ls, ?_⟩
  obtain ⟨a, cap, rfl, h2⟩ := h.ex
  rcases h2 with rfl | ⟨b, o, rfl, hlt, hc⟩
  · cases a with
    | none => exact .inl ⟨rfl, cap, rfl⟩
    | some a => exact .inr ⟨a, cap, rfl, fun j u hu => by simp [enC] at hu⟩
  · refine .inr ⟨_, cap, rfl, fun j u hu => ?_⟩
    have hj : j < ls.length * 2 := by rw [← enC_length]; exact (List.getElem?_eq_some_iff.1 hu).1
    have hi : j / 2 < ls.length := by omega
    obtain ⟨g0, g1⟩ := enC_get ls hi
    obtain ⟨c0, c1⟩ := hc (j / 2) hi
    rw [addr_add]
    have h4 : j = j / 2 * 2 ∨ j = j / 2 * 2 + 1 := by omega
    rcases h4 with h4 | h4
    · rw [← h4, hu] at g0
      cases g0
      rw [← c0]; congr 2; omega
    · rw [← h4, hu] at g1
      cases g1
      rw [← c1]; congr 2; omega

theorem en_of_row {W : World} {base : Nat} {v : Value} {ls : List En} (h : W.ownsRow base 37 2 v ls.length (enC ls)) (hf : ls.length ≤ 140737488355328) : EnAt W v ls := by
  refine ⟨?_, hf⟩
  rcases h.2 with ⟨rfl, hn⟩ | ⟨g, cap, cur, rfl, hb', hg, r⟩
  · have : ls = [] := List.eq_nil_of_length_eq_zero hn
    exact ⟨none, 0, by rw [hn], .inl this⟩
  · refine ⟨_, cap, rfl, .inr ⟨g, 0, rfl, (Array.getElem?_eq_some_iff.1 hg).1, fun i hi => ?_⟩⟩
    have hc : ∀ j u, (enC ls)[j]? = some u → W.cell? ⟨g, j, none⟩ = some u := fun j u hu => by have := h.cells (g := g) rfl j u hu; rwa [addr_add0] at this
    simp only [Nat.zero_add]
    obtain ⟨g0, g1⟩ := enC_get ls hi
    exact ⟨hc _ _ g0, hc _ _ g1⟩

theorem info37 : (Tryd.prog.info? 37).map (fun i => (i.zero, i.size, i.bytes)) = some (some (.agg #[.int .i64 0, .int .i64 0]), 2, 16) := by kernel_rfl

end Go.Proofs.YtjagnidkjpmkcaaDoor
