/-
  What is proved here: what the document's own Counts tells.
-/
import Derived.Test.YtjagnidkjpmkcaaDoorEntries
namespace Go.Proofs.YtjagnidkjpmkcaaDoor
open Go.RowKit Go.Shelf

/-- Four numbers, as cells. -/
def c4 (f : Nat → Nat) : Array Value := #[.int .i64 (f 0), .int .i64 (f 1), .int .i64 (f 2), .int .i64 (f 3)]
theorem c4_at (f : Nat → Nat) {k : Nat} (h : k < 4) : (c4 f)[k]? = some (.int .i64 (f k)) := by
  match k, h with
  | 0, _ => rfl
  | 1, _ => rfl
  | 2, _ => rfl
  | 3, _ => rfl
theorem c4_set (f : Nat → Nat) {k : Nat} (h : k < 4) (v : Nat) : (c4 f).setIfInBounds k (.int .i64 v) = c4 (fun j => if j = k then v else f j) := by
  match k, h with
  | 0, _ => rfl
  | 1, _ => rfl
  | 2, _ => rfl
  | 3, _ => rfl
theorem c4_congr {f g : Nat → Nat} (h : ∀ k, k < 4 → f k = g k) : c4 f = c4 g := by
  unfold c4; rw [h 0 (by omega), h 1 (by omega), h 2 (by omega), h 3 (by omega)]

/-- The counts while those of the higher levels are being set to 0. -/
def mid (c : Nat → Nat) (lv k : Nat) : Nat → Nat := fun j => if j < lv then c j else if j = lv then c j + 1 else if j < k then 0 else c j

theorem mid_start (c : Nat → Nat) (lv : Nat) : (fun j => if j = lv then c lv + 1 else c j) = mid c lv (lv + 1) := by
  funext j
  unfold mid
  by_cases h1 : j < lv
  · rw [if_neg (by omega), if_pos h1]
  · rw [if_neg h1]
    by_cases h2 : j = lv
    · rw [if_pos h2, if_pos h2, h2]
    · rw [if_neg h2, if_neg h2, if_neg (by omega)]
theorem mid_step (c : Nat → Nat) (lv k : Nat) (h : lv < k) : (fun j => if j = k then 0 else mid c lv k j) = mid c lv (k + 1) := by
  funext j
  unfold mid
  by_cases h1 : j < lv
  · rw [if_neg (by omega), if_pos h1, if_pos h1]
  · rw [if_neg h1, if_neg h1]
    by_cases h2 : j = lv
    · rw [if_neg (by omega), if_pos h2, if_pos h2]
    · rw [if_neg h2, if_neg h2]
      by_cases h3 : j = k
      · rw [if_pos h3, if_pos (by omega)]
      · rw [if_neg h3]
        by_cases h4 : j < k
        · rw [if_pos h4, if_pos (by omega)]
        · rw [if_neg h4, if_neg (by omega)]
theorem mid_end (c : Nat → Nat) (lv : Nat) : c4 (mid c lv 4) = c4 (up c lv) := by
  apply c4_congr
  intro k hk
  unfold mid up
  by_cases h1 : k < lv
  · rw [if_pos h1, if_pos h1]
  · rw [if_neg h1, if_neg h1]
    by_cases h2 : k = lv
    · rw [if_pos h2, if_pos h2]
    · rw [if_neg h2, if_neg h2, if_pos hk]

set_option maxHeartbeats 1000000 in
set_option maxRecDepth 100000 in
theorem refCounts_any (a : Option Addr) (n cap : Nat) (ls : List En) (hn : n = ls.length) (hn1 : n ≤ 5000) (hall : ls.all okE = true) (q : Nat) (w : World) (hS : EnAt w (.slice a n cap) ls) :
    Calls Tryd.prog 18 #[.slice a n cap, .int .i64 ((q : Int) + 1)] w fun e w' => ∃ v', e = .returned v' ∧ InAt w' v' (four ls q) ∧ Below w.heap.size w w' := by
  have h2 : ls = [] ∨ ∃ b o, a = some ⟨b, o, none⟩ ∧ b < w.heap.size ∧ ∀ (i : Nat) (h : i < ls.length), w.cell? ⟨b, o + i * 2, none⟩ = some (.int .i64 ls[i].1) ∧ w.cell? ⟨b, o + i * 2 + 1, none⟩ = some (.int .i64 ls[i].2) := by
    obtain ⟨a', cap', e', h2⟩ := hS.ex
    cases e'
    exact h2
  have HN : Hid (n = ls.length) := hn
  have HALL : Hid (ls.all okE = true) := hall
  clear hn hall hS
  go_enter Tryd.func18, Tryd.ntmps18
  go_wp2_with fail
  go_loopw [6] (fun i wr => ∃ k : Nat, k ≤ n ∧ i = .int .i64 k ∧ Hid (wr.heap[w.heap.size]? = some (.cells (c4 (cnt (ls.take k) q)) 3 (0, 0))) ∧ Below w.heap.size w wr) (fun i _ => n - (RowKit.intOf i).toNat)
  case atStart => exact ⟨0, by omega, rfl, heap_new w _, (Below.refl _ w).alloc (Nat.le_refl _) _⟩
  case round =>
    obtain ⟨k, hk, rfl, hC, hb⟩ := hrel
    by_cases hlt : k < n
    · have hltl : k < ls.length := by have := HN.out; omega
      have hkn : (k : Int) < n := by omega
      rcases h2 with h2 | ⟨b, o, rfl, hbl, hc⟩
      · rw [h2] at hltl; simp at hltl
      · obtain ⟨c0, c1⟩ := hc k hltl
        have d0 := (hb.cell (p := ⟨b, o + k * 2, none⟩) hbl).trans c0
        have d1 := (hb.cell (p := ⟨b, o + k * 2 + 1, none⟩) hbl).trans c1
        clear hc
        have hok := (okE_iff _).1 (List.all_eq_true.1 HALL.out ls[k] (List.getElem_mem hltl))
        have htk := cnt_take ls hltl q
        by_cases hx : ls[k].1 = (q : Int) + 1
        · obtain ⟨lv, hlv⟩ : ∃ lv : Nat, ls[k].2 = lv := ⟨ls[k].2.toNat, by omega⟩
          have hlv4 : lv < 4 := by omega
          rw [if_pos hx, hlv, Int.toNat_natCast] at htk
          have Htk : Hid (_ = _) := htk
          rw [hx] at d0 c0
          rw [hlv] at d1 c1
          have HC01 : Hid (w.cell? ⟨b, o + k * 2, none⟩ = some (.int .i64 ((q : Int) + 1)) ∧ w.cell? ⟨b, o + k * 2 + 1, none⟩ = some (.int .i64 lv)) := ⟨c0, c1⟩
          clear htk hok hx hlv c0 c1
          have hcl : cnt (ls.take k) q lv ≤ 100000 := by have := cnt_le q (ls.take k) lv; rw [List.length_take] at this; omega
          generalize cnt (ls.take k) q = c at hC Htk hcl
          have e1 : wr.cell? ⟨w.heap.size, lv, none⟩ = some (.int .i64 (c lv)) := by rw [Lib.cell_of_heap hC.out, c4_at _ hlv4]
          have f1 : wr.frozen? ⟨w.heap.size, lv, none⟩ = false := Lib.frozen_of_heap hC.out _
          have hne : ¬ (b = w.heap.size) := by omega
          have hne' : ¬ (w.heap.size = b) := by omega
          have g1 : Hid ((wr.setCell ⟨w.heap.size, lv, none⟩ (.int .i64 ((c lv : Int) + 1))).heap[w.heap.size]? = some (.cells (c4 (mid c lv (lv + 1))) 3 (0, 0))) := by
            have : (wr.setCell ⟨w.heap.size, lv, none⟩ (.int .i64 ((c lv : Int) + 1))).heap[w.heap.size]? = some (.cells ((c4 c).setIfInBounds lv (.int .i64 ((c lv + 1 : Nat) : Int))) 3 (0, 0)) := by
              simp [World.setCell, Array.getElem?_modify, hC.out]
            rw [c4_set c hlv4, mid_start] at this
            exact this
          have g2 : Below w.heap.size w (wr.setCell ⟨w.heap.size, lv, none⟩ (.int .i64 ((c lv : Int) + 1))) := hb.setCell (Nat.le_refl _) _
          have g3 : (wr.setCell ⟨w.heap.size, lv, none⟩ (.int .i64 ((c lv : Int) + 1))).cell? ⟨b, o + k * 2 + 1, none⟩ = some (.int .i64 lv) := (g2.cell hbl).trans HC01.out.2
          have hlvi : (lv : Int) < 4 := by omega
          generalize c lv = z at e1 hcl g1 g2 g3
          go_wp2_with fail
          go_loopw [7] (fun i wq => ∃ j : Nat, lv + 1 ≤ j ∧ j ≤ 4 ∧ i = .int .i64 j ∧ Hid (wq.heap[w.heap.size]? = some (.cells (c4 (mid c lv j)) 3 (0, 0))) ∧ Below w.heap.size w wq) (fun i _ => 4 - (RowKit.intOf i).toNat)
          case atStart => exact ⟨lv + 1, by omega, by omega, by simp, g1, g2⟩
          case round =>
            clear g1 g2 g3 e1 f1 d0 d1 hC hb
            obtain ⟨j, hj1, hj2, rfl, hC, hb⟩ := hrel
            by_cases hj : j < 4
            · have hji : (j : Int) < 4 := by omega
              have e1 : wr.cell? ⟨w.heap.size, j, none⟩ = some (.int .i64 (mid c lv j j)) := by rw [Lib.cell_of_heap hC.out, c4_at _ hj]
              have f1 : wr.frozen? ⟨w.heap.size, j, none⟩ = false := Lib.frozen_of_heap hC.out _
              have g1 : Hid ((wr.setCell ⟨w.heap.size, j, none⟩ (.int .i64 0)).heap[w.heap.size]? = some (.cells (c4 (mid c lv (j + 1))) 3 (0, 0))) := by
                have : (wr.setCell ⟨w.heap.size, j, none⟩ (.int .i64 0)).heap[w.heap.size]? = some (.cells ((c4 (mid c lv j)).setIfInBounds j (.int .i64 ((0 : Nat) : Int))) 3 (0, 0)) := by
                  simp [World.setCell, Array.getElem?_modify, hC.out]
                rw [c4_set _ hj, mid_step _ _ _ (by omega)] at this
                exact this
              have g2 : Below w.heap.size w (wr.setCell ⟨w.heap.size, j, none⟩ (.int .i64 0)) := hb.setCell (Nat.le_refl _) _
              generalize mid c lv j j = y at e1
              go_wp2_with fail
              go_roundw
              case rel => exact ⟨j + 1, by omega, by omega, by simp, g1, g2⟩
              case measure => simp [RowKit.intOf]; omega
            · obtain rfl : j = 4 := by omega
              have hC2 := hC.out
              rw [mid_end, ← Htk.out] at hC2
              have HC2 : Hid (_ = _) := hC2
              clear hC2 hC
              go_wp2_with fail
              go_roundw
              case rel => exact ⟨k + 1, by omega, by simp, HC2.out, hb⟩
              case measure => simp [RowKit.intOf]; omega
        · rw [if_neg hx] at htk
          rw [← htk] at hC
          have hxn : (ls[k].1 == (q : Int) + 1) = false := by simpa using hx
          clear htk hok c0 c1 d1
          generalize ls[k].1 = lx at *
          go_wp2_with fail
          go_roundw
          case rel => exact ⟨k + 1, by omega, by simp, hC, hb⟩
          case measure => simp [RowKit.intOf]; omega
    · obtain rfl : k = n := by omega
      have hfin : Hid (InAt wr (.slice (some ⟨w.heap.size, 0, none⟩) 4 4) (four ls q)) := by
        have hC' := hC.out
        rw [show ls.take k = ls by rw [HN.out, List.take_length]] at hC'
        refine ⟨⟨_, _, rfl, .inr ⟨w.heap.size, 0, rfl, (Array.getElem?_eq_some_iff.1 hC').1, fun i hi => ?_⟩⟩, by simp [four]⟩
        have hi4 : i < 4 := hi
        rw [Nat.zero_add, Lib.cell_of_heap hC', c4_at _ hi4]
        match i, hi4 with
        | 0, _ => rfl
        | 1, _ => rfl
        | 2, _ => rfl
        | 3, _ => rfl
      go_wp2_with fail
      go_ret
      exact ⟨_, rfl, hfin.out, hb⟩

end Go.Proofs.YtjagnidkjpmkcaaDoor
