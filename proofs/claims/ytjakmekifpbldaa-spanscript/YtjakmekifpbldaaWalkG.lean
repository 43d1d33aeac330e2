/-
  What is proved here: slices.Concat puts lists of spans together.
-/
import Derived.Test.YtjakmekifpbldaaWalkF
namespace Go.Proofs.Ytjakmekifpbldaa
open Go.RowKit Go.Shelf

/-- A row of spans, or of runs, of the call's own. -/
def RowAt (W : World) (base : Nat) (e : TypeId) (v : Value) (ps : List Sp) : Prop := W.ownsRow base e 4 v ps.length (rowOf ps)
theorem RowAt.out {W : World} {base : Nat} {e : TypeId} {v : Value} {ps : List Sp} (h : RowAt W base e v ps) : W.ownsRow base e 4 v ps.length (rowOf ps) := h
theorem RowAt.srcs {W W' : World} {base : Nat} {e : TypeId} {v : Value} {ps : List Sp} (h : RowAt W base e v ps) (hb : Below W.heap.size W W') : Srcs W' 4 v ps.length (rowOf ps) := ownsRow_srcs (ownsRow_below h.out hb) (rowOf_one ps)

/-- Lists of spans, in a list. -/
def ListsAt (W : World) (v : Value) (pss : List (List Sp)) : Prop := ∃ b cap, v = .slice (some ⟨b, 0, none⟩) pss.length cap ∧ b < W.heap.size ∧
  ∀ (i : Nat) (h : i < pss.length), ∃ u, W.cell? ⟨b, i, none⟩ = some u ∧ RowAt W 0 61 u pss[i]

theorem flat_succ (pss : List (List Sp)) {k : Nat} (h : k < pss.length) : (pss.take (k + 1)).flatten = (pss.take k).flatten ++ pss[k] := by
  rw [List.take_succ_eq_append_getElem h, List.flatten_append]; simp
theorem flat_le (pss : List (List Sp)) (k : Nat) : (pss.take k).flatten.length ≤ pss.flatten.length := by
  have h : pss.flatten = (pss.take k).flatten ++ (pss.drop k).flatten := by rw [← List.flatten_append, List.take_append_drop]
  rw [h, List.length_append]; omega

set_option maxRecDepth 100000 in
set_option maxHeartbeats 2000000 in
theorem concat_any (v : Value) (pss : List (List Sp)) (hfew : pss.flatten.length ≤ 100000) (hm : pss.length ≤ 100) (w : World) (h : ListsAt w v pss) :
    Calls Try.prog 47 #[v] w fun e w' => ∃ u, e = .returned u ∧ RowAt w' w.heap.size 61 u pss.flatten ∧ Below w.heap.size w w' := by
  obtain ⟨i0, hi, hz0, hz1, hz2⟩ := info_parts info61
  obtain ⟨b, cap, rfl, hb, hc⟩ := h
  have hc' : Hid _ := hc
  clear hc
  go_enter Try.func47, Try.ntmps47
  go_wp2_with fail
  go_loopw [3, 11] (fun s i wr => ∃ k : Nat, k ≤ pss.length ∧ i = .int .i64 k ∧ s = .int .i64 (pss.take k).flatten.length ∧ wr = w) (fun _ i _ => pss.length - (intOf i).toNat)
  case atStart => exact ⟨0, by omega, rfl, rfl, rfl⟩
  case round =>
    obtain ⟨k, hk, rfl, rfl, hw⟩ := hrel
    subst wr
    by_cases hlt : k < pss.length
    · obtain ⟨u, hu, hrow⟩ := hc'.out k hlt
      obtain ⟨a, cp, rfl⟩ := slice_form hrow.out
      have hfl : ((pss.take (k + 1)).flatten.length : Int) = (pss.take k).flatten.length + pss[k].length := by rw [flat_succ pss hlt, List.length_append]; omega
      have hbd := flat_le pss (k + 1)
      clear hrow
      generalize hA : (pss.take k).flatten.length = A at *
      generalize hB : (pss.take (k + 1)).flatten.length = B at *
      generalize hC : pss[k].length = C at *
      go_wp2_with fail
      go_roundw
      case rel => exact ⟨k + 1, by omega, by simp, by rw [hB, hfl], by first | rfl | trivial⟩
      case measure => simp [intOf]; omega
    · obtain rfl : k = pss.length := by omega
      rw [List.take_length]
      have hg := grow_nil pss.flatten.length (by omega) w
      generalize hN : pss.flatten.length = N at *
      go_wp2_with fail
      refine hg.mono ?_
      rintro e w1 ⟨v1, rfl, hrow1, B1⟩
      have hrow0 : RowAt w1 w.heap.size 61 v1 [] := hrow1
      clear hrow1
      go_wp2_with fail
      go_loopw [6, 27] (fun v i wq => ∃ k : Nat, k ≤ pss.length ∧ i = .int .i64 k ∧ Below w.heap.size w wq ∧ RowAt wq w.heap.size 61 v (pss.take k).flatten) (fun _ i _ => pss.length - (intOf i).toNat)
      case atStart => exact ⟨0, by omega, rfl, B1, hrow0⟩
      case round =>
        obtain ⟨k, hk, rfl, hbk, hrow⟩ := hrel
        by_cases hlt : k < pss.length
        · obtain ⟨u, hu, hsrc0⟩ := hc'.out k hlt
          have hu' : wr.cell? ⟨b, k, none⟩ = some u := (hbk.cell hb).trans hu
          have hsr : Srcs wr 4 u pss[k].length (rowOf pss[k]) := hsrc0.srcs hbk
          have hbd := flat_le pss (k + 1)
          have hfl := flat_succ pss hlt
          have hfll : (pss.take (k + 1)).flatten.length = (pss.take k).flatten.length + pss[k].length := by rw [hfl, List.length_append]
          obtain ⟨a, cp, rfl⟩ := slice_form hsrc0.out
          have hsr' : Hid _ := hsr
          have hfl' : Hid _ := hfl
          clear hsr hsrc0 hfl
          go_wp2_with (at_builtin; refine wpList_append_any _ rfl _ _ 40 rfl w.heap.size 61 i0 _ 4 32 Try.underlying40 hi hz0 hz1 hz2 rfl (by decide) _ _ _ rfl hrow.out pss[k].length (rowOf pss[k]) _ rfl hsr'.out (by unfold maxLen; omega) (by omega) hbk.size ?_; intro v' w2 hown hgrow; rw [← rowOf_append, ← hfl'.out, ← hfll] at hown)
          have hB2 : Below w.heap.size w w2 := below_grown hbk hrow.out (Nat.le_refl _) (Nat.le_refl _) hgrow
          have hown' : RowAt w2 w.heap.size 61 v' (pss.take (k + 1)).flatten := hown
          clear hown
          go_wp2_with fail
          go_roundw
          case rel => exact ⟨k + 1, by omega, by simp, hB2, hown'⟩
          case measure => simp [intOf]; omega
        · obtain rfl : k = pss.length := by omega
          rw [List.take_length] at hrow
          go_wp2_with fail
          go_ret
          exact ⟨_, rfl, hrow, hbk⟩
end Go.Proofs.Ytjakmekifpbldaa
