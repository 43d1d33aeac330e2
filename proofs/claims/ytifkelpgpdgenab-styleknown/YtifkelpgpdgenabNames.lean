/-
  What is proved here: what Names of style answers.
-/
import Derived.Test.YtifkelpgpdgenabLoopMath
import Derived.Test.YtifkelpgpdgenabIter
namespace Go.Proofs.Ytifkelpgpdgenab
open Go.RowKit Go.Shelf

/-- Names in memory. -/
structure StrsAt (W : World) (v : Value) (ns : List Str) : Prop where
  ex : ∃ a cap, v = .slice a ns.length cap ∧ (ns = [] ∨ ∃ g, a = some ⟨g, 0, none⟩ ∧ g < W.heap.size ∧ ∀ (i : Nat) (h : i < ns.length), W.cell? ⟨g, i, none⟩ = some (.string ns[i]))

/-- What Names answers. -/
def namesPost (w : World) (n : Nat) (S : Sh) (e : Ending) (w' : World) : Prop :=
  ∃ v ns, e = .returned v ∧ StrsAt w' v ns ∧ ns.length = n ∧ (∀ s ∈ ns, (S s).isSome = true) ∧ (∀ s, (S s).isSome = true → s ∈ ns) ∧ Below w.heap.size w w'

theorem strs_of_row {W : World} {base : Nat} {v : Value} {xs : List (List UInt8)} (h : W.ownsRow base 9 1 v xs.length (xs.map encStr)) : StrsAt W v (xs.map fun l => (⟨l.toArray⟩ : Str)) := by
  refine ⟨?_⟩
  rcases h.2 with ⟨rfl, hn⟩ | ⟨g, cap, cur, rfl, hb', hg, r⟩
  · have : xs = [] := List.eq_nil_of_length_eq_zero hn
    subst this
    exact ⟨none, 0, rfl, .inl rfl⟩
  · refine ⟨_, cap, by rw [List.length_map], .inr ⟨g, rfl, (Array.getElem?_eq_some_iff.1 hg).1, fun i hi => ?_⟩⟩
    have hi' : i < xs.length := by simpa using hi
    have hc := h.cells (g := g) rfl i (encStr xs[i]) (by simp [hi'])
    rw [addr_add0] at hc
    rw [hc]; simp

set_option maxRecDepth 100000 in
set_option maxHeartbeats 2000000 in
theorem names_any (t b n : Nat) (S : Sh) (w : World) (h : SheetAt w t b n S) : Calls Try.prog 8 #[.pointer (some ⟨t, 0, none⟩)] w (namesPost w n S) := by
  obtain ⟨D, h1, h2, hl, hin, hall⟩ := keys_of h
  have hfew := h.few
  have hk := (callsIn_wide (n := 5)).1 (Try.maps_Keys_23 (some b) w)
  have hs := (callsIn_wide (n := 5)).1 (Try.slices_Sorted_keys_22_23 b n D R0 w h1 (by rw [h2]; unfold maxLen; omega) (by rw [h2]; omega))
  have hmade := made_yes t w h.cells.1
  obtain ⟨c0, c1⟩ := h.cells
  have hA := (Below.refl w.heap.size w).alloc (Nat.le_refl _) (Obj.cells #[.map (some b)] 48)
  have hin' : Hid _ := hin
  have hall' : Hid _ := hall
  have hs' : Hid (Calls Try.prog 22 _ _ _) := hs
  clear h1 hin hall hs
  go_enter Try.func8, Try.ntmps8
  go_wp2_with (first
    | (go_at_call 16; refine hmade.mono ?_; rintro e w' ⟨rfl, hww⟩; subst w')
    | (go_at_call 23; refine hk.mono ?_; rintro e w' ⟨rfl, hww⟩; subst w'))
  refine hs'.out.mono ?_
  rintro e w2 ⟨v, ss, rfl, hp, hrow, _, b2⟩
  have hfin : namesPost w n S (.returned v) w2 := by
    have hms : (ss.mergeSort (fun x y => decide (x ≤ y))).Perm ss := List.mergeSort_perm _ _
    have hlen : (ss.mergeSort (fun x y => decide (x ≤ y))).length = ss.length := hms.length_eq
    rw [← hlen] at hrow
    refine ⟨v, _, rfl, strs_of_row hrow, ?_, ?_, ?_, hA.trans (b2.mono hA.size)⟩
    · rw [List.length_map, hlen, hp.length_eq, hl]
    · intro s hsm
      obtain ⟨x, hx, rfl⟩ := List.mem_map.1 hsm
      exact hin'.out x (hp.mem_iff.1 (hms.mem_iff.1 hx))
    · intro s hsm
      obtain ⟨x, hx⟩ := Option.isSome_iff_exists.1 hsm
      refine List.mem_map.2 ⟨s.data.toList, hms.mem_iff.2 (hp.mem_iff.2 (hall'.out s x hx)), by simp⟩
  obtain ⟨a2, cp2, rfl⟩ : ∃ a c, v = .slice a ss.length c := by
    rcases hrow.2 with ⟨rfl, hn⟩ | ⟨g, cap, cur, rfl, _⟩
    · exact ⟨none, 0, by rw [hn]⟩
    · exact ⟨_, _, rfl⟩
  clear hrow hp b2
  go_wp2_with fail
  go_ret
  exact hfin
end Go.Proofs.Ytifkelpgpdgenab
