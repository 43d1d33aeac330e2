/-
  What is proved here: what the document's own Names answers (for StyleScript).
-/
import Derived.Test.YtifkelpgpdgenaaXStyRow
namespace Go.Proofs.Ytifkelpgpdgenaa
open Go.RowKit Go.Shelf

variable {X : Nat → Prop}

/-- Names in memory. -/
structure StrsAt (W : World) (v : Value) (ns : List Str) : Prop where
  ex : ∃ a cap, v = .slice a ns.length cap ∧ (ns = [] ∨ ∃ g, a = some ⟨g, 0, none⟩ ∧ g < W.heap.size ∧ ∀ (i : Nat) (h : i < ns.length), W.cell? ⟨g, i, none⟩ = some (.string ns[i]))
theorem strs_of_row {W : World} {base : Nat} {v : Value} {ns : List Str} (h : W.ownsRow base 9 1 v ns.length (ns.map Value.string)) : StrsAt W v ns := by
  refine ⟨?_⟩
  rcases h.2 with ⟨rfl, hn⟩ | ⟨g, cap, cur, rfl, hb', hg, r⟩
  · have : ns = [] := List.eq_nil_of_length_eq_zero hn
    subst this
    exact ⟨none, 0, rfl, .inl rfl⟩
  · refine ⟨_, cap, rfl, .inr ⟨g, rfl, (Array.getElem?_eq_some_iff.1 hg).1, fun i hi => ?_⟩⟩
    have hc := h.cells (g := g) rfl i (.string ns[i]) (by simp [hi])
    rw [addr_add0] at hc
    exact hc
theorem info9 : (Try.prog.info? 9).map (fun i => (i.zero, i.size, i.bytes)) = some (some (.string ⟨#[]⟩), 1, 16) := by kernel_rfl

set_option maxRecDepth 100000 in
set_option maxHeartbeats 4000000 in
theorem refNames_any (g : Nat) (T : Stys) (hT : T.length ≤ 64) (w : World) (h : RefAt X w g T) :
    Calls Try.prog 48 #[.pointer (some ⟨g, 0, none⟩)] w fun e w' => ∃ v, e = .returned v ∧ StrsAt w' v (T.map (·.1)) ∧ Below w.heap.size w w' := by
  obtain ⟨i0, hi, hz0, hz1, hz2⟩ := info_parts info9
  obtain ⟨v, hv, hS⟩ := h.ex
  have hg := h.lt
  obtain ⟨a, cap, rfl, h2⟩ := hS.ex
  clear hS h
  go_enter Try.func48, Try.ntmps48
  go_wp2_with fail
  go_loopw [3, 4] (fun o i wr => ∃ (k : Nat) (a1 : Option Addr) (c1 : Nat), k ≤ T.length ∧ o = .slice a1 k c1 ∧ i = .int .i64 k ∧ Below w.heap.size w wr ∧ Hid (wr.ownsRow w.heap.size 9 1 (.slice a1 k c1) k ((T.take k).map fun x => Value.string x.1))) (fun _ i _ => T.length - (intOf i).toNat)
  case atStart => exact ⟨0, none, 0, by omega, rfl, rfl, Below.refl _ _, World.ownsRow_nil w _ 9 1⟩
  case round =>
    obtain ⟨k, a1, c1, hk, rfl, rfl, hb, hrow⟩ := hrel
    have dv := (hb.cell hg).trans hv
    by_cases hlt : k < T.length
    · rcases h2 with h2 | ⟨b, o, rfl, hbl, _, hc⟩
      · rw [h2] at hlt; simp at hlt
      · obtain ⟨c0, _, _⟩ := hc k hlt
        replace c0 := (hb.cell hbl).trans c0
        clear hc
        have hmore : Hid ((T.take k).map (fun x => Value.string x.1) ++ [.string T[k].1] = (T.take (k + 1)).map (fun x => Value.string x.1)) := by
          rw [List.take_succ_eq_append_getElem hlt, List.map_append]; exact rfl
        generalize T[k].1 = u at *
        have hA := (Below.refl wr.heap.size wr).alloc (Nat.le_refl _) (.cells #[.string u] 9)
        have hrow' : Hid _ := ownsRow_below hrow.out hA
        have hx := heap_new wr (.cells #[.string u] 9)
        have hsrc : Hid (Srcs (wr.alloc (.cells #[.string u] 9)) 1 (.slice (some ⟨wr.heap.size, 0, none⟩) 1 1) 1 [.string u]) := ⟨rfl, fun y hy => (by rw [List.mem_singleton.1 hy]; rfl), .inr ⟨_, _, rfl, fun j y hj => by
          cases j with
          | zero => simp at hj; subst hj; rw [addr_add0, Lib.cell_of_heap hx]; rfl
          | succ j => simp at hj⟩⟩
        have hs0 := hb.size
        clear hx
        go_wp2_with (at_builtin; refine wpList_append_any _ rfl _ _ 65 rfl w.heap.size 9 i0 _ 1 16 Try.underlying65 hi hz0 hz1 hz2 rfl (by decide) _ k _ rfl hrow'.out 1 [.string u] _ rfl hsrc.out (by unfold maxLen; omega) (by omega) (by simp; omega) ?_; intro v' w2 hown hgrow; obtain ⟨a2, cp2, rfl⟩ := slice_form hown)
        have hB2 : Below w.heap.size w w2 := below_grown (hb.trans (hA.mono hb.size)) hrow'.out (Nat.le_refl _) (Nat.le_refl _) hgrow
        rw [hmore.out] at hown
        replace hown : Hid _ := hown
        clear hgrow hrow' hrow hsrc hmore
        try go_wp2_with fail
        go_roundw
        case rel => exact ⟨k + 1, a2, cp2, by omega, rfl, by simp, hB2, hown.out⟩
        case measure => simp [intOf]; omega
    · obtain rfl : k = T.length := by omega
      have hfin : Hid (StrsAt wr (.slice a1 T.length c1) (T.map (·.1))) := by
        have h1 := hrow.out
        rw [List.take_length] at h1
        have := strs_of_row (W := wr) (v := .slice a1 T.length c1) (ns := T.map (·.1)) (base := w.heap.size) (by rw [List.length_map, List.map_map]; exact h1)
        exact this
      clear hrow
      go_wp2_with fail
      go_ret
      exact ⟨_, rfl, hfin.out, hb⟩
end Go.Proofs.Ytifkelpgpdgenaa
