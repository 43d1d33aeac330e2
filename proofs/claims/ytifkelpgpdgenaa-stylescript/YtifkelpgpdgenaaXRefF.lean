/-
  What is proved here: the document's own sheets in memory, and what its At answers (for StyleScript).
  What is proved here: the document's own sheets stay as they are where nothing below is written, and which styles they have (for StyleScript).
-/
import Derived.Test.YtifkelpgpdgenaaXResolve
namespace Go.Proofs.Ytifkelpgpdgenaa
open Go.RowKit Go.Shelf

variable {X : Nat → Prop}

/-- A list of styles in memory. -/
structure StylesAt (X : Nat → Prop) (W : World) (v : Value) (T : List (Str × Sty)) : Prop where
  ex : ∃ a cap, v = .slice a T.length cap ∧ (T = [] ∨ ∃ b o, a = some ⟨b, o, none⟩ ∧ b < W.heap.size ∧ ¬ X b ∧ ∀ (i : Nat) (h : i < T.length),
    W.cell? ⟨b, o + i * 3, none⟩ = some (.string T[i].1) ∧ W.cell? ⟨b, o + i * 3 + 1, none⟩ = some (.string T[i].2.1) ∧
    ∃ a' cap', W.cell? ⟨b, o + i * 3 + 2, none⟩ = some (.slice a' T[i].2.2.length cap') ∧ SetsX X W (.slice a' T[i].2.2.length cap') T[i].2.2)
  few : T.length ≤ 9223372036854775807
  fit : ∀ a l c, v = .slice a l c → l ≤ c

/-- The document's own sheet. -/
structure RefAt (X : Nat → Prop) (W : World) (g : Nat) (T : List (Str × Sty)) : Prop where
  ex : ∃ v, W.cell? ⟨g, 0, none⟩ = some v ∧ StylesAt X W v T
  lt : g < W.heap.size
  nx : ¬ X g
  obj : ∃ v, W.heap[g]? = some (.cells #[v] 50 (0, 0))

set_option maxRecDepth 100000 in
set_option maxHeartbeats 2000000 in
theorem refAt_any (g : Nat) (T : List (Str × Sty)) (s : Str) (w : World) (hR : RefAt X w g T) :
    Calls Try.prog 44 #[.pointer (some ⟨g, 0, none⟩), .string s] w fun e w' => w' = w ∧
      ((∃ (i : Nat) (h : i < T.length), e = .returned (.int .i64 i) ∧ T[i].1 = s ∧ ∀ (j : Nat) (hj : j < i), (T[j]'(by omega)).1 ≠ s) ∨
        (e = .returned (.int .i64 (-1)) ∧ ∀ x ∈ T, x.1 ≠ s)) := by
  obtain ⟨v, hv, hS⟩ := hR.ex
  obtain ⟨a, cap, rfl, h2⟩ := hS.ex
  have hlen := hS.few
  clear hS hR
  go_enter Try.func44, Try.ntmps44
  go_wp2_with fail
  go_loopw [5] (fun i wr => ∃ k : Nat, k ≤ T.length ∧ i = .int .i64 k ∧ wr = w ∧ Hid (∀ (j : Nat) (hj : j < T.length), j < k → T[j].1 ≠ s)) (fun i _ => T.length - (intOf i).toNat)
  case atStart => exact ⟨0, by omega, rfl, rfl, fun j _ hj => by omega⟩
  case round =>
    obtain ⟨k, hk, rfl, rfl, hall⟩ := hrel
    by_cases hlt : k < T.length
    · rcases h2 with h2 | ⟨b, o, rfl, hbl, _, hc⟩
      · rw [h2] at hlt; simp at hlt
      · obtain ⟨c0, _, _⟩ := hc k hlt
        clear hc
        by_cases he : T[k].1 = s
        · rw [he] at c0
          go_wp2_with fail
          go_ret
          exact ⟨rfl, .inl ⟨k, hlt, rfl, he, fun j hj => hall.out j (by omega) hj⟩⟩
        · have hmore : Hid (∀ (j : Nat) (hj : j < T.length), j < k + 1 → T[j].1 ≠ s) := fun j hj hjk => by
            by_cases h : j < k
            · exact hall.out j hj h
            · obtain rfl : j = k := by omega
              exact he
          have hq := strEq_no he
          generalize T[k].1 = u at *
          clear hall
          go_wp2_with fail
          go_roundw
          case rel => exact ⟨k + 1, by omega, by simp, trivial, hmore⟩
          case measure => simp [intOf]; omega
    · obtain rfl : k = T.length := by omega
      go_wp2_with fail
      go_ret
      refine ⟨rfl, .inr ⟨rfl, fun x hx => ?_⟩⟩
      obtain ⟨j, hj, rfl⟩ := List.mem_iff_getElem.1 hx
      exact hall.out j hj hj
end Go.Proofs.Ytifkelpgpdgenaa

namespace Go.Proofs.Ytifkelpgpdgenaa
open Go.RowKit Go.Shelf

variable {X : Nat → Prop}

theorem StylesAt.below {W W' : World} {v : Value} {T : List (Str × Sty)} (h : StylesAt X W v T) (hb : Below W.heap.size W W') : StylesAt X W' v T := by
  obtain ⟨a, cap, rfl, h2⟩ := h.ex
  refine ⟨⟨a, cap, rfl, ?_⟩, h.few, h.fit⟩
  rcases h2 with h2 | ⟨b, o, rfl, hlt, hnb, hc⟩
  · exact .inl h2
  · refine .inr ⟨b, o, rfl, Nat.lt_of_lt_of_le hlt hb.size, hnb, fun i hi => ?_⟩
    obtain ⟨c0, c1, a', cap', c2, hs⟩ := hc i hi
    exact ⟨(hb.cell hlt).trans c0, (hb.cell hlt).trans c1, a', cap', (hb.cell hlt).trans c2, ⟨hs.toSetsAt.below hb, hs.av⟩⟩
theorem RefAt.below {W W' : World} {g : Nat} {T : List (Str × Sty)} (h : RefAt X W g T) (hb : Below W.heap.size W W') : RefAt X W' g T := by
  obtain ⟨v, hv, hS⟩ := h.ex
  exact ⟨⟨v, (hb.cell h.lt).trans hv, hS.below hb⟩, Nat.lt_of_lt_of_le h.lt hb.size, h.nx, h.obj.imp fun v hv => (hb.block g h.lt).trans hv⟩

/-- Which styles a list has. -/
noncomputable def shOf (T : List (Str × Sty)) : Sh := by
  classical exact fun s => (T.find? fun x => decide (x.1 = s)).map (·.2)
theorem shOf_none {T : List (Str × Sty)} {s : Str} (h : ∀ x ∈ T, x.1 ≠ s) : shOf T s = none := by
  classical
  unfold shOf
  simp only [Option.map_eq_none_iff, List.find?_eq_none, decide_eq_true_eq]
  exact h
theorem shOf_some {T : List (Str × Sty)} {s : Str} {i : Nat} (hi : i < T.length) (h : T[i].1 = s) (hf : ∀ (j : Nat) (hj : j < i), (T[j]'(by omega)).1 ≠ s) : shOf T s = some T[i].2 := by
  classical
  unfold shOf
  have : T.find? (fun x => decide (x.1 = s)) = some T[i] := by
    rw [List.find?_eq_some_iff_getElem]
    exact ⟨by simp [h], i, hi, rfl, fun j hj => by simpa using hf j hj⟩
  simp [this]

/-- What At answers, by the styles that there are. -/
theorem refAt_sh (g : Nat) (T : List (Str × Sty)) (s : Str) (w : World) (hR : RefAt X w g T) :
    Calls Try.prog 44 #[.pointer (some ⟨g, 0, none⟩), .string s] w fun e w' => w' = w ∧
      ((∃ (i : Nat) (h : i < T.length), e = .returned (.int .i64 i) ∧ T[i].1 = s ∧ shOf T s = some T[i].2) ∨
        (e = .returned (.int .i64 (-1)) ∧ shOf T s = none)) := by
  refine (refAt_any g T s w hR).mono ?_
  rintro e w' ⟨rfl, ⟨i, hi, rfl, h1, h2⟩ | ⟨rfl, h1⟩⟩
  · exact ⟨rfl, .inl ⟨i, hi, rfl, h1, shOf_some hi h1 h2⟩⟩
  · exact ⟨rfl, .inr ⟨rfl, shOf_none h1⟩⟩
end Go.Proofs.Ytifkelpgpdgenaa
