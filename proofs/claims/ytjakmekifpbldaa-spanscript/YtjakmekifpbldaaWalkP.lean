/-
  What is proved here: the looks of all bytes in a list (whole), and when two such lists are the same (chars).
-/
import Derived.Test.YtjakmekifpbldaaWalkO
namespace Go.Proofs.Ytjakmekifpbldaa
open Go.RowKit Go.Shelf

theorem info23 : (Try.prog.info? 23).map (fun i => (i.zero, i.size, i.bytes)) = some (some (.agg #[.int .i64 0, .int .i64 0, .int .i64 0]), 3, 24) := by kernel_rfl
def chRow (L : List Ch) : List Value := L.flatMap chCells
theorem chRow_length (L : List Ch) : (chRow L).length = L.length * 3 := by
  induction L with
  | nil => rfl
  | cons p r ih => simp [chRow, List.flatMap_cons, chCells] at ih ⊢; omega
theorem chRow_append (a b : List Ch) : chRow (a ++ b) = chRow a ++ chRow b := by simp [chRow]
theorem chRow_get (L : List Ch) {i : Nat} (h : i < L.length) (j : Nat) (hj : j < 3) : (chRow L)[i * 3 + j]? = (chCells L[i])[j]? := by
  have hs : L = L.take i ++ (L[i] :: L.drop (i + 1)) := by simp
  conv => lhs; rw [hs]
  rw [chRow_append]
  have hl : (chRow (L.take i)).length = i * 3 := by rw [chRow_length, List.length_take, Nat.min_eq_left (by omega)]
  have : chRow (L[i] :: L.drop (i + 1)) = chCells L[i] ++ chRow (L.drop (i + 1)) := by unfold chRow; rw [List.flatMap_cons]
  rw [List.getElem?_append_right (by omega), hl, this, List.getElem?_append_left (by simp [chCells]; omega)]
  congr 1; omega
theorem chRow_one (L : List Ch) : ∀ u ∈ chRow L, u.oneCell' = true := by
  intro u hu
  obtain ⟨p, _, hp⟩ := List.mem_flatMap.1 hu
  simp [chCells] at hp
  rcases hp with rfl | rfl | rfl <;> rfl
/-- A list of looks, of the call's own. -/
def CharsAt (W : World) (base : Nat) (v : Value) (L : List Ch) : Prop := W.ownsRow base 23 3 v L.length (chRow L)
theorem CharsAt.out {W : World} {base : Nat} {v : Value} {L : List Ch} (h : CharsAt W base v L) : W.ownsRow base 23 3 v L.length (chRow L) := h
theorem CharsAt.form {W : World} {base : Nat} {v : Value} {L : List Ch} (h : CharsAt W base v L) : ∃ a cap, v = .slice a L.length cap := slice_form h.out
theorem CharsAt.below {W W' : World} {base : Nat} {v : Value} {L : List Ch} (h : CharsAt W base v L) (hb : Below W.heap.size W W') : CharsAt W' base v L := ownsRow_below h.out hb
theorem CharsAt.cells {W : World} {base : Nat} {v : Value} {L : List Ch} (h : CharsAt W base v L) {i : Nat} (hi : i < L.length) :
    ∃ g cap, v = .slice (some ⟨g, 0, none⟩) L.length cap ∧ g < W.heap.size ∧ W.cell? ⟨g, i * 3, none⟩ = some (.int .i64 L[i].s) ∧ W.cell? ⟨g, i * 3 + 1, none⟩ = some (.int .i64 L[i].t) ∧ W.cell? ⟨g, i * 3 + 2, none⟩ = some (.int .i64 L[i].k) := by
  have hcs : ∀ g cap, v = .slice (some ⟨g, 0, none⟩) L.length cap → ∀ j u, (chRow L)[j]? = some u → W.cell? ⟨g, j, none⟩ = some u := fun g cap hv j u hu => by
    subst hv
    have := h.out.cells (g := g) rfl j u hu
    rwa [addr_add0] at this
  rcases h.out.2 with ⟨hv, hn⟩ | ⟨g, cap, cur, hv, hb, hg, _⟩
  · omega
  · have hc := hcs g cap hv
    exact ⟨g, cap, hv, (Array.getElem?_eq_some_iff.1 hg).1, hc _ _ (chRow_get L hi 0 (by omega)), hc _ _ (chRow_get L hi 1 (by omega)), hc _ _ (chRow_get L hi 2 (by omega))⟩

theorem srcs3 (w : World) (o : Obj) (x0 x1 x2 : Int) (e : TypeId) : Srcs ((w.alloc o).alloc (.cells #[.int .i64 x0, .int .i64 x1, .int .i64 x2] e)) 3 (.slice (some ⟨w.heap.size + 1, 0, none⟩) 1 1) 1 [.int .i64 x0, .int .i64 x1, .int .i64 x2] := by
  refine ⟨rfl, by intro u hu; simp at hu; rcases hu with rfl | rfl | rfl <;> rfl, .inr ⟨_, _, rfl, fun j u hu => ?_⟩⟩
  have hn := heap_new (w.alloc o) (.cells #[.int .i64 x0, .int .i64 x1, .int .i64 x2] e)
  rw [World.size_alloc] at hn
  rw [addr_add0, Lib.cell_of_heap hn]
  match j, hu with
  | 0, hu => simpa using hu
  | 1, hu => simpa using hu
  | 2, hu => simpa using hu
  | j + 3, hu => simp at hu

set_option maxRecDepth 100000 in
set_option maxHeartbeats 2000000 in
theorem whole_any (t : Nat) (sv : Value) (L : List Ch) (m : Ch) (w : World) (h : LooksAt t sv L m w) :
    Calls Try.prog 27 #[.pointer (some ⟨t, 0, none⟩)] w fun e w' => ∃ v, e = .returned v ∧ CharsAt w' w.heap.size v L ∧ Below w.heap.size w w' := by
  obtain ⟨i0, hi, hz0, hz1, hz2⟩ := info_parts info23
  have hfew := h.few
  have hln : ∀ W, Below w.heap.size w W → Calls Try.prog 24 #[.pointer (some ⟨t, 0, none⟩)] W fun e w' => e = .returned (.int .i64 L.length) ∧ w' = W := fun W hW => len_looks t sv L m W (h.below hW)
  have hat : ∀ W (p : Nat) (hp : p < L.length), Below w.heap.size w W → Calls Try.prog 19 #[.pointer (some ⟨t, 0, none⟩), .int .i64 p] W fun e w' => e = .returned (.tuple #[.agg #[.int .i64 L[p].s, .int .i64 L[p].t, .int .i64 L[p].k], .int .i64 0]) ∧ Below W.heap.size W w' := fun W p hp hW => at_ok t sv L m p hp W (h.below hW)
  clear h
  go_enter Try.func27, Try.ntmps27
  go_wp2_with fail
  go_loopw [3, 4] (fun v i wr => ∃ k : Nat, k ≤ L.length ∧ i = .int .i64 k ∧ Below w.heap.size w wr ∧ CharsAt wr w.heap.size v (L.take k)) (fun _ i _ => L.length - (intOf i).toNat)
  case atStart => exact ⟨0, by omega, rfl, Below.refl _ _, World.ownsRow_nil _ _ _ _⟩
  case round =>
    obtain ⟨k, hk, rfl, hb, hrow⟩ := hrel
    have hl := hln wr hb
    by_cases hlt : k < L.length
    · have ha := hat wr k hlt hb
      have htk : (L.take (k + 1)) = L.take k ++ [L[k]] := List.take_succ_eq_append_getElem hlt
      have hkl : (L.take k).length = k := by rw [List.length_take, Nat.min_eq_left hk]
      have htk' : Hid _ := htk
      clear htk
      generalize L[k] = c at *
      go_wp2_with (first
        | (go_at_call 24; refine hl.mono ?_; rintro e w' ⟨rfl, hww⟩; subst w')
        | (go_at_call 19; refine ha.mono ?_; rintro e w1 ⟨rfl, B1⟩; have hr1 := hrow.below B1; have C1 := hb.trans (B1.mono hb.size))
        | (at_builtin; refine wpList_append_any _ rfl _ _ 58 rfl w.heap.size 23 i0 _ 3 24 Try.underlying58 hi hz0 hz1 hz2 rfl (by decide) _ _ _ rfl ((hr1.out.alloc _).alloc _) 1 _ _ rfl (srcs3 w1 _ _ _ _ 23) (by unfold maxLen; omega) (by omega) (by have := C1.size; simp; omega) ?_; intro v' w2 hown hgrow))
      have hB2 : Below w.heap.size w w2 := below_grown ((C1.alloc C1.size _).alloc (by have := C1.size; simp; omega) _) ((hr1.out.alloc _).alloc _) (Nat.le_refl _) (Nat.le_refl _) hgrow
      have hown' : CharsAt w2 w.heap.size v' (L.take (k + 1)) := by
        show w2.ownsRow _ _ _ _ _ _
        rw [htk'.out, List.length_append, chRow_append]
        exact hown
      clear hown
      go_wp2_with fail
      go_roundw
      case rel => exact ⟨k + 1, by omega, by simp, hB2, hown'⟩
      case measure => simp [intOf]; omega
    · obtain rfl : k = L.length := by omega
      rw [List.take_length] at hrow
      go_wp2_with (go_at_call 24; refine hl.mono ?_; rintro e w' ⟨rfl, hww⟩; subst w')
      go_ret
      exact ⟨_, rfl, hrow, hb⟩
end Go.Proofs.Ytjakmekifpbldaa
