/-
  What is proved here: what Names of style answers, the order of the names with it (for StyleScript; what lies behind the list's length is not told yet).
-/
import Derived.Test.YtifkelpgpdgenaaXClone
import Derived.Test.YtifkelpgpdgenaaXOver
import Derived.Test.YtifkelpgpdgenaaIter
namespace Go.Proofs.Ytifkelpgpdgenaa
open Go.RowKit Go.Shelf

variable {X : Nat → Prop}

theorem rises_of_sort {ss : List (List UInt8)} (hn : ss.Nodup) : (ss.mergeSort (fun x y => decide (x ≤ y))).Pairwise (· < ·) := by
  have h1 : (ss.mergeSort (fun x y => decide (x ≤ y))).Pairwise (fun x y => decide (x ≤ y) = true) :=
    List.pairwise_mergeSort (fun a b c hab hbc => by simp only [decide_eq_true_eq] at *; exact List.le_trans hab hbc) (fun a b => by simp only [Bool.or_eq_true, decide_eq_true_eq]; exact List.le_total a b) ss
  have h2 : (ss.mergeSort (fun x y => decide (x ≤ y))).Nodup := (List.mergeSort_perm ss _).nodup_iff.2 hn
  refine List.Pairwise.imp₂ (fun x y hle hne => ?_) h1 h2
  simp only [decide_eq_true_eq] at hle
  by_cases h : x < y
  · exact h
  · exact absurd (List.le_antisymm hle (List.not_lt.1 h)) hne

/-- What Names answers, save what lies behind the list's length. -/
def NamesRow (w : World) (S : Sh) (e : Ending) (w' : World) : Prop :=
  ∃ (v : Value) (ns : List Str), e = .returned v ∧ w'.ownsRow w.heap.size 9 1 v ns.length (ns.map Value.string) ∧ ns.Pairwise ltS ∧ (∀ s, s ∈ ns ↔ (S s).isSome = true) ∧ Below w.heap.size w w'

set_option maxRecDepth 100000 in
set_option maxHeartbeats 2000000 in
theorem names_row (t b n : Nat) (S : Sh) (w : World) (h : SheetAt X w t b n S) : Calls Try.prog 30 #[.pointer (some ⟨t, 0, none⟩)] w (NamesRow w S) := by
  obtain ⟨D, h1, h2, hl, hin, hall⟩ := keys_of h
  have hnd := keys_nodup h1
  have hfew := h.few
  have hk := (callsIn_wide (n := 5)).1 (Try.maps_Keys_52 (some b) w)
  have hs := (callsIn_wide (n := 5)).1 (Try.slices_Sorted_keys_51_52 b n D R0 w h1 (by rw [h2]; unfold maxLen; omega) (by rw [h2]; omega))
  have hmade := made_yes t w h.cells.1
  obtain ⟨c0, c1⟩ := h.cells
  have hA := (Below.refl w.heap.size w).alloc (Nat.le_refl _) (Obj.cells #[.map (some b)] 58)
  have hin' : Hid _ := hin
  have hall' : Hid _ := hall
  have hs' : Hid (Calls Try.prog 51 _ _ _) := hs
  replace hnd : Hid _ := hnd
  clear h1 hin hall hs
  go_enter Try.func30, Try.ntmps30
  go_wp2_with (first
    | (go_at_call 37; refine hmade.mono ?_; rintro e w' ⟨rfl, hww⟩; subst w')
    | (go_at_call 52; refine hk.mono ?_; rintro e w' ⟨rfl, hww⟩; subst w'))
  refine hs'.out.mono ?_
  rintro e w2 ⟨v, ss, rfl, hp, hrow, _, b2⟩
  have hfin : NamesRow w S (.returned v) w2 := by
    have hms : (ss.mergeSort (fun x y => decide (x ≤ y))).Perm ss := List.mergeSort_perm _ _
    have hlen : (ss.mergeSort (fun x y => decide (x ≤ y))).length = ss.length := hms.length_eq
    refine ⟨v, (ss.mergeSort (fun x y => decide (x ≤ y))).map (fun l => (⟨l.toArray⟩ : Str)), rfl, ?_, ?_, ?_, hA.trans (b2.mono hA.size)⟩
    · rw [List.length_map, List.map_map, hlen]
      exact ownsRow_base hrow hA.size
    · rw [List.pairwise_map]
      refine (rises_of_sort (hp.nodup_iff.2 hnd.out)).imp fun {x y} hxy => ?_
      simpa [ltS] using hxy
    · intro s
      constructor
      · intro hsm
        obtain ⟨x, hx, rfl⟩ := List.mem_map.1 hsm
        exact hin'.out x (hp.mem_iff.1 (hms.mem_iff.1 hx))
      · intro hsm
        obtain ⟨x, hx⟩ := Option.isSome_iff_exists.1 hsm
        exact List.mem_map.2 ⟨s.data.toList, hms.mem_iff.2 (hp.mem_iff.2 (hall'.out s x hx)), by simp⟩
  obtain ⟨a2, cp2, rfl⟩ : ∃ a c, v = .slice a ss.length c := by
    rcases hrow.2 with ⟨rfl, hn⟩ | ⟨g, cap, cur, rfl, _⟩
    · exact ⟨none, 0, by rw [hn]⟩
    · exact ⟨_, _, rfl⟩
  clear hrow hp b2
  go_wp2_with fail
  go_ret
  exact hfin
end Go.Proofs.Ytifkelpgpdgenaa
