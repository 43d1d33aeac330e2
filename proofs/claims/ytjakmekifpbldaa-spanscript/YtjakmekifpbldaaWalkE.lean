/-
  What is proved here: part tells the runs of the bytes between two places, in a list of its own; ahead tells how bytes look that are put in.
-/
import Derived.Test.YtjakmekifpbldaaWalkB
import Derived.Deep.RegionWith
namespace Go.Proofs.Ytjakmekifpbldaa
open Go.RowKit Go.Shelf

theorem info61 : (Try.prog.info? 61).map (fun i => (i.zero, i.size, i.bytes)) = some (some (.agg #[.int .i64 0, .int .i64 0, .int .i64 0, .int .i64 0]), 4, 32) := by kernel_rfl
theorem rowOf_one (ps : List Sp) : ∀ u ∈ rowOf ps, u.oneCell' = true := by
  intro u hu
  obtain ⟨p, _, hp⟩ := List.mem_flatMap.1 hu
  simp [spCells, chCells] at hp
  rcases hp with rfl | rfl | rfl | rfl <;> rfl
/-- A new block of four cells, as what is appended. -/
theorem srcs_new (w : World) (x0 x1 x2 x3 : Int) (e : TypeId) : Srcs (w.alloc (.cells #[.int .i64 x0, .int .i64 x1, .int .i64 x2, .int .i64 x3] e)) 4 (.slice (some ⟨w.heap.size, 0, none⟩) 1 1) 1 [.int .i64 x0, .int .i64 x1, .int .i64 x2, .int .i64 x3] := by
  refine ⟨rfl, by intro u hu; simp at hu; rcases hu with rfl | rfl | rfl | rfl <;> rfl, .inr ⟨_, _, rfl, fun j u hu => ?_⟩⟩
  rw [addr_add0, Lib.cell_of_heap (heap_new w _)]
  match j, hu with
  | 0, hu => simpa using hu
  | 1, hu => simpa using hu
  | 2, hu => simpa using hu
  | 3, hu => simpa using hu
  | j + 4, hu => simp at hu

set_option maxRecDepth 100000 in
set_option maxHeartbeats 2000000 in
theorem part_any (t : Nat) (sv : Value) (L : List Ch) (m : Ch) (f0 to : Nat) (h0 : f0 ≤ to) (hto : to ≤ L.length) (w : World) (h : LooksAt t sv L m w) :
    Calls Try.prog 43 #[.pointer (some ⟨t, 0, none⟩), .int .i64 f0, .int .i64 to] w fun e w' => ∃ v, e = .returned v ∧ w'.ownsRow w.heap.size 61 4 v (rle (sub L f0 to)).length (rowOf (rle (sub L f0 to))) ∧ Below w.heap.size w w' := by
  obtain ⟨_, c1, _, _, _⟩ := h.cells
  have hfew := h.few
  have hlen : (rle L).length ≤ 4096 := Nat.le_trans (rle_len_le L) h.few
  have hlt := h.lt
  have hrun := runAt_any t sv L m f0 w h
  have hidx : Hid (f0 < to → (idx L f0 < (rle L).length ∧ tot ((rle L).take (idx L f0)) ≤ f0 ∧ f0 < tot ((rle L).take (idx L f0 + 1)))) := fun hl => idx_spec L (by omega)
  obtain ⟨i0, hi, hz0, hz1, hz2⟩ := info_parts info61
  have hrc := run_cells h.row
  clear h
  have hixl : idx L f0 ≤ 4096 := Nat.le_trans (Nat.le_trans List.countP_le_length (by simp)) hlen
  obtain ⟨ix, hix⟩ : ∃ ix, idx L f0 = ix := ⟨_, rfl⟩
  rw [hix] at hrun hidx hixl
  clear hix
  go_enter Try.func43, Try.ntmps43
  go_wp2_with fail
  refine hrun.mono ?_
  rintro e w1 ⟨rfl, B1⟩
  go_wp2_with fail
  go_loopw [1, 7, 8] (fun f v i wr => ∃ (fn k : Nat), f0 ≤ fn ∧ fn ≤ to ∧ f = .int .i64 fn ∧ i = .int .i64 k ∧ k ≤ 4096 ∧ Below w.heap.size w wr ∧ Hid (wr.ownsRow w.heap.size 61 4 v (rle (sub L f0 fn)).length (rowOf (rle (sub L f0 fn)))) ∧
    Hid (fn < to → (k < (rle L).length ∧ tot ((rle L).take k) ≤ fn ∧ fn < tot ((rle L).take (k + 1))) ∧ (fn = f0 ∨ fn = tot ((rle L).take k)))) (fun f _ _ _ => to - (intOf f).toNat)
  case atStart =>
    exact ⟨f0, ix, Nat.le_refl _, h0, rfl, rfl, hixl, B1, by rw [sub_self]; exact World.ownsRow_nil _ _ _ _, fun hl => ⟨hidx.out hl, .inl rfl⟩⟩
  case round =>
    obtain ⟨fn, k, hf0, hfto, rfl, rfl, hk, hb, hrow, hnx⟩ := hrel
    by_cases hlt2 : fn < to
    · obtain ⟨⟨k1, k2, k3⟩, k4⟩ := hnx.out hlt2
      rcases hrc with ⟨hr0, _⟩ | ⟨g, cap, rfl, _, hg, hc⟩
      · rw [hr0] at k1; simp at k1
      · obtain ⟨d0, d1, d2, d3⟩ := hc k k1
        have e1 : wr.cell? ⟨t, 1, none⟩ = _ := (hb.cell hlt).trans c1
        have g0 : wr.cell? _ = _ := (hb.cell hg).trans d0
        have g1 : wr.cell? _ = _ := (hb.cell hg).trans d1
        have g2 : wr.cell? _ = _ := (hb.cell hg).trans d2
        have g3 : wr.cell? _ = _ := (hb.cell hg).trans d3
        have hT : ∀ E, E = min (tot ((rle L).take (k + 1))) to → Hid (rle (sub L f0 E) = rle (sub L f0 fn) ++ [(E - fn, (rle L)[k].2)]) := fun E hE => part_step L k1 k2 (by omega) (by omega) hf0 (by omega) k4
        have hN : ∀ E, E = min (tot ((rle L).take (k + 1))) to → Hid (E < to → (k + 1 < (rle L).length ∧ tot ((rle L).take (k + 1)) ≤ E ∧ E < tot ((rle L).take (k + 1 + 1))) ∧ (E = f0 ∨ E = tot ((rle L).take (k + 1)))) := fun E hE hl => by
          obtain ⟨n1, n2, n3, n4⟩ := part_next L k1 hE hto hl
          exact ⟨⟨n1, n2, n3⟩, .inr n4⟩
        have hT' : Hid _ := hT
        have hN' : Hid _ := hN
        have hrow' : ∀ o, Hid ((wr.alloc o).ownsRow w.heap.size 61 4 u7 (rle (sub L f0 fn)).length (rowOf (rle (sub L f0 fn)))) := fun o => hrow.out.alloc o
        have hrl : (rle (sub L f0 fn)).length ≤ 4096 := Nat.le_trans (rle_len_le _) (by rw [sub_length L (by omega)]; omega)
        clear d0 d1 d2 d3 hc hT hN hnx k2 k4
        generalize hTv : tot ((rle L).take (k + 1)) = T at *
        generalize hcv : (rle L)[k].2 = c at *
        have hcell : [Value.int .i64 (min (T : Int) (to : Int) - (fn : Int)), .int .i64 c.s, .int .i64 c.t, .int .i64 c.k] = rowOf [(min T to - fn, c)] := by
          have : min (T : Int) (to : Int) - (fn : Int) = ((min T to - fn : Nat) : Int) := by omega
          simp [rowOf, spCells, chCells, this]
        have hcell' : Hid _ := hcell
        clear hcell
        go_wp2_with (at_builtin; refine wpList_append_any _ rfl _ _ 40 rfl w.heap.size 61 i0 _ 4 32 Try.underlying40 hi hz0 hz1 hz2 rfl (by decide) u7 _ _ rfl (hrow' _).out 1 _ _ rfl (srcs_new wr _ _ _ _ 61) (by unfold maxLen; omega) (by omega) (by have := hb.size; simp; omega) ?_; intro v' w2 hown hgrow; rw [hcell'.out, ← rowOf_append] at hown)
        have hB2 : Below w.heap.size w w2 := below_grown (hb.alloc hb.size _) (hrow' _).out (Nat.le_refl _) (Nat.le_refl _) hgrow
        have hs := hT'.out _ rfl
        have hown' : Hid (w2.ownsRow w.heap.size 61 4 v' (rle (sub L f0 (min T to))).length (rowOf (rle (sub L f0 (min T to))))) := by
          show w2.ownsRow _ _ _ _ _ _
          rw [hs.out, List.length_append]; exact hown
        have hnn := hN'.out _ rfl
        clear hown hs hT' hN'
        go_wp2_with fail
        go_roundw
        case rel => exact ⟨min T to, k + 1, by omega, by omega, by simp; omega, by simp, by omega, hB2, hown', by subst hTv; exact hnn⟩
        case measure => simp [intOf]; omega
    · obtain rfl : fn = to := by omega
      go_wp2_with fail
      go_ret
      exact ⟨_, rfl, hrow.out, hb⟩
end Go.Proofs.Ytjakmekifpbldaa
