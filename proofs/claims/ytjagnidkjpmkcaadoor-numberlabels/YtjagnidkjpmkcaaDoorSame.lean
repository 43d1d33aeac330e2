/-
  What is proved here: SameTexts answers true of two lists of the same texts, SameInts of two lists of the same numbers.
-/
import Derived.Test.YtjagnidkjpmkcaaDoorLabelsW
namespace Go.Proofs.YtjagnidkjpmkcaaDoor
open Go.RowKit Go.Shelf

set_option maxRecDepth 100000 in
set_option maxHeartbeats 2000000 in
theorem sameTexts_yes (v1 v2 : Value) (L : List (List UInt8)) (w : World) (h1 : TxAt w v1 L) (h2 : TxAt w v2 L) :
    Calls Tryd.prog 15 #[v1, v2] w fun e w' => e = .returned (.bool true) ∧ Below w.heap.size w w' := by
  obtain ⟨a1, cap1, rfl, k1⟩ := h1.ex
  obtain ⟨a2, cap2, rfl, k2⟩ := h2.ex
  have hlen := h1.few
  go_enter Tryd.func15, Tryd.ntmps15
  go_wp2_with fail
  go_loopw [5] (fun i wr => ∃ k : Nat, k ≤ L.length ∧ i = .int .i64 k ∧ Below w.heap.size w wr) (fun i _ => L.length - (RowKit.intOf i).toNat)
  case atStart => exact ⟨0, by omega, rfl, Below.refl _ _⟩
  case round =>
    obtain ⟨k, hk, rfl, hb⟩ := hrel
    by_cases hlt : k < L.length
    · rcases k1 with k1 | ⟨b1, o1, rfl, hl1, hc1⟩
      · rw [k1] at hlt; simp at hlt
      · rcases k2 with k2 | ⟨b2, o2, rfl, hl2, hc2⟩
        · rw [k2] at hlt; simp at hlt
        · have d1 : wr.cell? ⟨b1, o1 + k, none⟩ = some (.string ⟨L[k].toArray⟩) := (hb.cell hl1).trans (hc1 k hlt)
          have d2 : wr.cell? ⟨b2, o2 + k, none⟩ = some (.string ⟨L[k].toArray⟩) := (hb.cell hl2).trans (hc2 k hlt)
          have hkl : (k : Int) < L.length := by omega
          clear hc1 hc2 h1 h2
          generalize (⟨L[k].toArray⟩ : ByteArray) = s at d1 d2
          go_wp2_with fail
          go_quiet (fail)
          go_wp2_with fail
          go_roundw
          case rel => exact ⟨k + 1, by omega, by simp, ⟨hb.os, hb.tape, hb.output, hb.size, hb.block⟩⟩
          case measure => simp [RowKit.intOf]; omega
    · obtain rfl : k = L.length := by omega
      go_wp2_with fail
      go_ret
      exact ⟨rfl, hb⟩

/-- Numbers, in memory. -/
structure InAt (W : World) (v : Value) (L : List Int) : Prop where
  ex : ∃ a cap, v = .slice a L.length cap ∧ (L = [] ∨ ∃ b o, a = some ⟨b, o, none⟩ ∧ b < W.heap.size ∧ ∀ (i : Nat) (h : i < L.length), W.cell? ⟨b, o + i, none⟩ = some (.int .i64 L[i]))
  few : L.length ≤ 140737488355328

theorem InAt.below {W W' : World} {v : Value} {L : List Int} (h : InAt W v L) (hb : Below W.heap.size W W') : InAt W' v L := by
  obtain ⟨a, cap, rfl, h2⟩ := h.ex
  refine ⟨⟨a, cap, rfl, ?_⟩, h.few⟩
  rcases h2 with h2 | ⟨b, o, rfl, hlt, hc⟩
  · exact .inl h2
  · exact .inr ⟨b, o, rfl, Nat.lt_of_lt_of_le hlt hb.size, fun i hi => (hb.cell hlt).trans (hc i hi)⟩

theorem InAt.of_row {W : World} {B : Nat} {v : Value} {L : List Int} (h : W.ownsRow B 3 1 v L.length (L.map (Value.int .i64))) (hf : L.length ≤ 140737488355328) : InAt W v L := by
  rcases h.2 with ⟨rfl, h0⟩ | ⟨g, cap, cur, rfl, _, hg, _⟩
  · obtain rfl := List.eq_nil_of_length_eq_zero h0
    exact ⟨⟨_, _, rfl, .inl rfl⟩, hf⟩
  · refine ⟨⟨_, _, rfl, .inr ⟨g, 0, rfl, (Array.getElem?_eq_some_iff.1 hg).1, fun i hi => ?_⟩⟩, hf⟩
    have := h.cells (g := g) rfl i _ (by rw [List.getElem?_map, List.getElem?_eq_getElem hi]; rfl)
    rw [addr_add0] at this
    rw [Nat.zero_add]
    exact this

set_option maxRecDepth 100000 in
set_option maxHeartbeats 2000000 in
theorem sameInts_yes (v1 v2 : Value) (L : List Int) (w : World) (h1 : InAt w v1 L) (h2 : InAt w v2 L) :
    Calls Tryd.prog 17 #[v1, v2] w fun e w' => e = .returned (.bool true) ∧ Below w.heap.size w w' := by
  obtain ⟨a1, cap1, rfl, k1⟩ := h1.ex
  obtain ⟨a2, cap2, rfl, k2⟩ := h2.ex
  have hlen := h1.few
  go_enter Tryd.func17, Tryd.ntmps17
  go_wp2_with fail
  go_loopw [5] (fun i wr => ∃ k : Nat, k ≤ L.length ∧ i = .int .i64 k ∧ Below w.heap.size w wr) (fun i _ => L.length - (RowKit.intOf i).toNat)
  case atStart => exact ⟨0, by omega, rfl, Below.refl _ _⟩
  case round =>
    obtain ⟨k, hk, rfl, hb⟩ := hrel
    by_cases hlt : k < L.length
    · rcases k1 with k1 | ⟨b1, o1, rfl, hl1, hc1⟩
      · rw [k1] at hlt; simp at hlt
      · rcases k2 with k2 | ⟨b2, o2, rfl, hl2, hc2⟩
        · rw [k2] at hlt; simp at hlt
        · have d1 : wr.cell? ⟨b1, o1 + k, none⟩ = some (.int .i64 L[k]) := (hb.cell hl1).trans (hc1 k hlt)
          have d2 : wr.cell? ⟨b2, o2 + k, none⟩ = some (.int .i64 L[k]) := (hb.cell hl2).trans (hc2 k hlt)
          have hkl : (k : Int) < L.length := by omega
          clear hc1 hc2 h1 h2
          generalize L[k] = s at d1 d2
          go_wp2_with fail
          go_quiet (fail)
          go_wp2_with fail
          go_roundw
          case rel => exact ⟨k + 1, by omega, by simp, ⟨hb.os, hb.tape, hb.output, hb.size, hb.block⟩⟩
          case measure => simp [RowKit.intOf]; omega
    · obtain rfl : k = L.length := by omega
      go_wp2_with fail
      go_ret
      exact ⟨rfl, hb⟩

end Go.Proofs.YtjagnidkjpmkcaaDoor
