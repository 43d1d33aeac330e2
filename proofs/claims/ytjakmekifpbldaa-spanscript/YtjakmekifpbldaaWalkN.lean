/-
  What is proved here: what At, Slice and Clone answer of looks.
-/
import Derived.Test.YtjakmekifpbldaaWalkM
import Derived.Laws.ResultCell
namespace Go.Proofs.Ytjakmekifpbldaa
open Go.RowKit Go.Shelf

theorem results_cell_row2 {P : Program} {fn : Func} {p u : Tmp} {ty : TypeId} (h : fn.results = #[.cell p ty, .tmp u]) (tmps : Array Value) (w : World) (g : Nat) (t : TypeId) (cs : Array Value) (fr : Nat × Nat) (d : TypeDesc)
    (hp : tmps.getD p undef = .pointer (some ⟨g, 0, none⟩)) (hg : w.heap[g]? = some (.cells cs t fr))
    (hu : P.underlying ty = some d) (hd : (match d with | .struct _ | .array _ _ => true | _ => false) = true) (hi : (P.info? ty).map (·.size) = some cs.size) :
    (results fn tmps).run P w = .ok (.tuple #[.agg cs, tmps.getD u undef]) w := by
  have hp' : tmps[p]?.getD undef = .pointer (some ⟨g, 0, none⟩) := by simpa using hp
  rw [results_cell_tmp h]
  simp [hp', asAddr, run_loadVar_row w g t ty cs fr d hg hu hd hi, Result.andThen]

set_option maxHeartbeats 1000000 in
theorem slice_range (t : Nat) (sv : Value) (L : List Ch) (m : Ch) (a b : Int) (hx : a < 0 ∨ b < a ∨ (L.length : Int) < b) (w : World) (h : LooksAt t sv L m w) :
    Calls Try.prog 20 #[.pointer (some ⟨t, 0, none⟩), .int .i64 a, .int .i64 b] w fun e w' => e = .returned (.tuple #[.slice none 0 0, .int .i64 5]) ∧ w' = w := by
  have hmade := made_yes t w h.cells.1
  have hlen := len_looks t sv L m w h
  clear h
  by_cases h1 : a < 0
  · go_enter Try.func20, Try.ntmps20
    go_wp2_with (first
      | (go_at_call 34; refine hmade.mono ?_; rintro e w' ⟨rfl, hww⟩; subst w')
      | (go_at_call 24; refine hlen.mono ?_; rintro e w' ⟨rfl, hww⟩; subst w'))
    go_ret2
    exact ⟨rfl, rfl⟩
  · by_cases h2 : b < a
    · go_enter Try.func20, Try.ntmps20
      go_wp2_with (first
        | (go_at_call 34; refine hmade.mono ?_; rintro e w' ⟨rfl, hww⟩; subst w')
        | (go_at_call 24; refine hlen.mono ?_; rintro e w' ⟨rfl, hww⟩; subst w'))
      go_ret2
      exact ⟨rfl, rfl⟩
    · have h3 : (L.length : Int) < b := by omega
      go_enter Try.func20, Try.ntmps20
      go_wp2_with (first
        | (go_at_call 34; refine hmade.mono ?_; rintro e w' ⟨rfl, hww⟩; subst w')
        | (go_at_call 24; refine hlen.mono ?_; rintro e w' ⟨rfl, hww⟩; subst w'))
      go_ret2
      exact ⟨rfl, rfl⟩

set_option maxHeartbeats 1000000 in
theorem slice_ok (t : Nat) (sv : Value) (L : List Ch) (m : Ch) (p q : Nat) (h1 : p ≤ q) (h2 : q ≤ L.length) (w : World) (h : LooksAt t sv L m w) :
    Calls Try.prog 20 #[.pointer (some ⟨t, 0, none⟩), .int .i64 p, .int .i64 q] w fun e w' => ∃ v, e = .returned (.tuple #[v, .int .i64 0]) ∧ RowAt w' w.heap.size 61 v (rle (sub L p q)) ∧ Below w.heap.size w w' := by
  have hmade := made_yes t w h.cells.1
  have hlen := len_looks t sv L m w h
  have hpa := part_any t sv L m p q h1 h2 w h
  clear h
  go_enter Try.func20, Try.ntmps20
  go_wp2_with (first
    | (go_at_call 34; refine hmade.mono ?_; rintro e w' ⟨rfl, hww⟩; subst w')
    | (go_at_call 24; refine hlen.mono ?_; rintro e w' ⟨rfl, hww⟩; subst w')
    | (go_at_call 43; refine hpa.mono ?_; rintro e w' ⟨v, rfl, r, hb⟩; replace r := rowAt_of r; obtain ⟨a0, cp0, rfl⟩ := r.form))
  go_ret2
  exact ⟨_, rfl, r, hb⟩

set_option maxHeartbeats 1000000 in
theorem at_range (t : Nat) (sv : Value) (L : List Ch) (m : Ch) (a : Int) (hx : a < 0 ∨ (L.length : Int) ≤ a) (w : World) (h : LooksAt t sv L m w) :
    Calls Try.prog 19 #[.pointer (some ⟨t, 0, none⟩), .int .i64 a] w fun e w' => e = .returned (.tuple #[chV ⟨0, 0, 0⟩, .int .i64 5]) ∧ Below w.heap.size w w' := by
  have hB := (Below.refl w.heap.size w).alloc (Nat.le_refl _) (.cells #[.int .i64 0, .int .i64 0, .int .i64 0] 23)
  have hmade := made_yes t _ (h.below hB).cells.1
  have hlen := len_looks t sv L m _ (h.below hB)
  clear h
  unfold chV
  by_cases h1 : a < 0
  · go_enter Try.func19, Try.ntmps19
    go_wp2_with (first
      | (go_at_call 34; refine hmade.mono ?_; rintro e w' ⟨rfl, hww⟩; subst w')
      | (go_at_call 24; refine hlen.mono ?_; rintro e w' ⟨rfl, hww⟩; subst w'))
    refine bodyPost_ret (results_cell_row2 rfl _ _ w.heap.size 23 _ (0, 0) _ rfl (heap_new w _) Try.underlying23 rfl (by kernel_rfl)) rfl ?_
    exact ⟨rfl, hB⟩
  · have h2 : (L.length : Int) ≤ a := by omega
    go_enter Try.func19, Try.ntmps19
    go_wp2_with (first
      | (go_at_call 34; refine hmade.mono ?_; rintro e w' ⟨rfl, hww⟩; subst w')
      | (go_at_call 24; refine hlen.mono ?_; rintro e w' ⟨rfl, hww⟩; subst w'))
    refine bodyPost_ret (results_cell_row2 rfl _ _ w.heap.size 23 _ (0, 0) _ rfl (heap_new w _) Try.underlying23 rfl (by kernel_rfl)) rfl ?_
    exact ⟨rfl, hB⟩

set_option maxRecDepth 100000 in
set_option maxHeartbeats 4000000 in
theorem at_ok (t : Nat) (sv : Value) (L : List Ch) (m : Ch) (p : Nat) (hp : p < L.length) (w : World) (h : LooksAt t sv L m w) :
    Calls Try.prog 19 #[.pointer (some ⟨t, 0, none⟩), .int .i64 p] w fun e w' => e = .returned (.tuple #[chV L[p], .int .i64 0]) ∧ Below w.heap.size w w' := by
  obtain ⟨_, c1, _, _, _⟩ := h.cells
  have hfew := h.few
  have hlen' : (rle L).length ≤ 4096 := Nat.le_trans (rle_len_le L) h.few
  have hlt := h.lt
  have hb0 := (Below.refl w.heap.size w).alloc (Nat.le_refl _) (.cells #[.int .i64 0, .int .i64 0, .int .i64 0] 23)
  have hmade := made_yes t _ (h.below hb0).cells.1
  have hlen := len_looks t sv L m _ (h.below hb0)
  unfold chV
  obtain ⟨k1, k2, k3⟩ := idx_spec L hp
  have hav := rle_byte L k1 k2 k3
  rw [List.getElem?_eq_getElem hp] at hav
  injection hav with hav
  rcases run_cells h.row with ⟨hr0, _⟩ | ⟨g, cap, rfl, _, hg, hc⟩
  · rw [hr0] at k1; simp at k1
  · obtain ⟨_, d1, d2, d3⟩ := hc _ k1
    rw [← hav] at d1 d2 d3
    have hrun : ∀ W', Below w.heap.size w W' → Calls Try.prog 42 #[.pointer (some ⟨t, 0, none⟩), .int .i64 p] W' fun e w' => e = .returned (.int .i64 (idx L p)) ∧ Below W'.heap.size W' w' := fun W' hb => runAt_any t _ L m p W' (h.below hb)
    generalize L[p] = c at *
    generalize idx L p = ix at *
    clear h hav hc k2 k3
    have hrun' : Hid _ := hrun
    clear hrun
    go_enter Try.func19, Try.ntmps19
    go_wp2_with (first
      | (go_at_call 34; refine hmade.mono ?_; rintro e w' ⟨rfl, hww⟩; subst w')
      | (go_at_call 24; refine hlen.mono ?_; rintro e w' ⟨rfl, hww⟩; subst w'))
    go_region_with (go_at_call 42; refine (hrun'.out _ (by exact ⟨hb0.1, hb0.2, hb0.3, hb0.4, hb0.5⟩)).mono ?_; rintro e wx ⟨rfl, hbx⟩; obtain ⟨hbw, ⟨x1, y1, y2, y3⟩, hBx, ⟨z0, z1, z2⟩, f0, f1, f2⟩ := ahead_facts (w := w) (wx := wx) (by exact ⟨hbx.1, hbx.2, hbx.3, hbx.4, hbx.5⟩) hlt hg c1 d1 d2 d3)
    all_goals
      go_wp2_with fail
      refine bodyPost_ret (results_cell_row2 rfl _ _ w.heap.size 23 _ (0, 0) _ rfl (set3 hBx) Try.underlying23 rfl (by kernel_rfl)) rfl ?_
      exact ⟨rfl, below_set (below_set (below_set hbw _ _ _ (Nat.le_refl _)) _ _ _ (Nat.le_refl _)) _ _ _ (Nat.le_refl _)⟩
end Go.Proofs.Ytjakmekifpbldaa
