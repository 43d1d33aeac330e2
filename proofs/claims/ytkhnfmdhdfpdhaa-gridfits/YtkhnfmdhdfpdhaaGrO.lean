/-
  What is proved here: what Widths answers, for every table and width.
-/
import Derived.Test.YtkhnfmdhdfpdhaaGrN
import Derived.OwnWalk
namespace Go.Proofs.Ytkhnfmdhdfpdhaa
open Go.RowKit Go.Shelf

/-- All least widths together. -/
def sumS (n : Nat) (l : List ByteArray) : Int := tot (sAt (cols n l)) n
def sumM (n : Nat) (l : List ByteArray) : Int := tot (mAt (cols n l)) n
/-- The widths for a room. -/
def wdL (n : Nat) (l : List ByteArray) (q : Int) : List Int := if q < sumS n l then evL n q else groL (cols n l) q
/-- How Widths ends. -/
def WdEnd (c : Int) (l : List ByteArray) (q : Int) (w : World) (e : Ending) (w' : World) : Prop :=
  Below w.heap.size w w' ∧
  ((chkG c l ≠ 0 ∧ e = .returned (.tuple #[.slice none 0 0, .bool false, .int .i64 (chkG c l)])) ∨
  (chkG c l = 0 ∧ ¬ (0 ≤ q ∧ q ≤ 4095) ∧ e = .returned (.tuple #[.slice none 0 0, .bool false, .int .i64 5])) ∨
  (chkG c l = 0 ∧ (0 ≤ q ∧ q ≤ 4095) ∧ ∃ b, w.heap.size ≤ b ∧ e = .returned (.tuple #[.slice (some ⟨b, 0, none⟩) c.toNat c.toNat, .bool (decide (q < sumS c.toNat l)), .int .i64 0]) ∧ IBk w' b (wdL c.toNat l q)))

set_option maxRecDepth 100000 in
set_option maxHeartbeats 4000000 in
theorem widths_any (c : Int) (v : Value) (l : List ByteArray) (q : Int) (hl : l.length ≤ 9223372036854775807) (hsz : ∀ t ∈ l, t.size ≤ 9223372036854775807) (w : World) (hS : StrsAt w v l) :
    Calls Try.prog 11 #[.agg #[.int .i64 c, v], .int .i64 q] w (WdEnd c l q w) := by
  have hB0 := (Below.refl w.heap.size w).alloc (Nat.le_refl _) (.cells #[.int .i64 c, v] 24)
  have hS0 := hS.below hB0 (Nat.le_refl _)
  have hs0 : (w.alloc (.cells #[.int .i64 c, v] 24)).heap.size = w.heap.size + 1 := World.size_alloc _ _
  have hbx : (w.alloc (.cells #[.int .i64 c, v] 24)).heap[w.heap.size]? = some (.cells #[.int .i64 c, v] 24) := World.alloc_heap_new w _
  have hck := gcheck_any c v l hl hsz _ hS0
  by_cases hz : ¬ chkG c l = 0
  · have hne : ¬ chkG c l = 0 := hz
    have c0 : (w.alloc (.cells #[.int .i64 c, v] 24)).cell? ⟨w.heap.size, 0, none⟩ = some (.int .i64 c) := by rw [Lib.cell_of_heap hbx]; rfl
    have c1 : (w.alloc (.cells #[.int .i64 c, v] 24)).cell? ⟨w.heap.size, 1, none⟩ = some v := by rw [Lib.cell_of_heap hbx]; rfl
    have hend : Hid (∀ e w1, e = .returned (.tuple #[.slice none 0 0, .bool false, .int .i64 (chkG c l)]) → Below (w.alloc (.cells #[.int .i64 c, v] 24)).heap.size (w.alloc (.cells #[.int .i64 c, v] 24)) w1 → WdEnd c l q w e w1) := fun e w1 he hb => ⟨hB0.trans (hb.mono hB0.size), .inl ⟨hz, he⟩⟩
    generalize chkG c l = ee at *
    generalize hP : WdEnd c l q w = P at *
    go_enter Try.func11, Try.ntmps11
    go_wp2_with (go_at_call 14; refine hck.mono ?_; rintro e w1 ⟨rfl, b1⟩)
    go_ret3
    exact hend.out _ _ rfl b1
  replace hz := Classical.not_not.1 hz
  rw [hz] at hck
  obtain ⟨n, rfl, hn1, hl1, hd1, hC1⟩ := chk_ok hz
  have hT : Tab n l := ⟨hn1, hl1, hd1, hC1⟩
  obtain ⟨n1, n2⟩ := hn1
  have c0 : (w.alloc (.cells #[.int .i64 n, v] 24)).cell? ⟨w.heap.size, 0, none⟩ = some (.int .i64 n) := by rw [Lib.cell_of_heap hbx]; rfl
  have c1 : (w.alloc (.cells #[.int .i64 n, v] 24)).cell? ⟨w.heap.size, 1, none⟩ = some v := by rw [Lib.cell_of_heap hbx]; rfl
  have hvb := strs_own hS (by rintro rfl; simp at hl1)
  by_cases hq0 : q < 0
  · have hend : Hid (∀ e w1, e = .returned (.tuple #[.slice none 0 0, .bool false, .int .i64 5]) → Below (w.alloc (.cells #[.int .i64 n, v] 24)).heap.size (w.alloc (.cells #[.int .i64 n, v] 24)) w1 → WdEnd n l q w e w1) := fun e w1 he hb => ⟨hB0.trans (hb.mono hB0.size), .inr (.inl ⟨hz, by omega, he⟩)⟩
    generalize hP : WdEnd n l q w = P at *
    go_enter Try.func11, Try.ntmps11
    go_wp2_with (go_at_call 14; refine hck.mono ?_; rintro e w1 ⟨rfl, b1⟩)
    go_ret3
    exact hend.out _ _ rfl b1
  by_cases hq1 : 4095 < q
  · have hend : Hid (∀ e w1, e = .returned (.tuple #[.slice none 0 0, .bool false, .int .i64 5]) → Below (w.alloc (.cells #[.int .i64 n, v] 24)).heap.size (w.alloc (.cells #[.int .i64 n, v] 24)) w1 → WdEnd n l q w e w1) := fun e w1 he hb => ⟨hB0.trans (hb.mono hB0.size), .inr (.inl ⟨hz, by omega, he⟩)⟩
    generalize hP : WdEnd n l q w = P at *
    go_enter Try.func11, Try.ntmps11
    go_wp2_with (go_at_call 14; refine hck.mono ?_; rintro e w1 ⟨rfl, b1⟩)
    go_ret3
    exact hend.out _ _ rfl b1
  have hco := columns_any n v
  have hcl := fun (W : World) hR hv => collect_any W.heap.size n v l hT (W.alloc (.cells #[.int .i64 n, v] 24)) hR hv
  have hF := cols_few hT
  have hcn : (cols n l).length = n := cols_len n l
  have hrow : ∀ u W, W.ownsRow w.heap.size 55 2 u n (rowT n l n) → RecAt 2 coL W u (cols n l) := fun u W h => rec_of_row coL_len hcn.symm h
  have htg := fun u W hr => together_any u (cols n l) hF W hr
  rw [hcn] at htg
  have hgr := fun u W hr (hq : tot (sAt (cols n l)) n ≤ q ∧ q ≤ 4095) => grown_any u (cols n l) hF q (by rw [hcn]; exact hq) W hr
  rw [hcn] at hgr
  have hev := evenly_any n q ⟨n1, n2⟩ ⟨by omega, by omega⟩
  have hSS : sumS n l = tot (sAt (cols n l)) n := rfl
  have hMM : sumM n l = tot (mAt (cols n l)) n := rfl
  have hrs := hF.tot n (by omega)
  rw [← hSS, ← hMM] at htg hgr hrs
  by_cases htt : q < sumS n l
  · have hend : Hid (∀ b e w1, e = .returned (.tuple #[.slice (some ⟨b, 0, none⟩) n n, .bool true, .int .i64 0]) → w.heap.size ≤ b → IBk w1 b (evL n q) → Below w.heap.size w w1 → WdEnd n l q w e w1) := fun b e w1 he h1 h2 h3 => ⟨h3, .inr (.inr ⟨hz, by omega, b, h1, by rw [he, show (n : Int).toNat = n from rfl, decide_eq_true htt], by rw [show (n : Int).toNat = n from rfl]; unfold wdL; rw [if_pos htt]; exact h2⟩)⟩
    clear hgr hMM hSS
    generalize sumS n l = S at *
    generalize sumM n l = M at *
    generalize hP : WdEnd n l q w = P at *
    go_enter Try.func11, Try.ntmps11
    go_wp2_with (first
      | (go_at_call 14; refine hck.mono ?_; rintro e w1 ⟨rfl, b1⟩; have hx1 := (b1.block w.heap.size (by omega)).trans hbx; (have c2 : w1.cell? ⟨w.heap.size, 0, none⟩ = some (.int .i64 n) := by rw [Lib.cell_of_heap hx1]; rfl); (have c3 : w1.cell? ⟨w.heap.size, 1, none⟩ = some v := by rw [Lib.cell_of_heap hx1]; rfl); have hB1 := hB0.trans (b1.mono hB0.size); have hlt1 := (Array.getElem?_eq_some_iff.1 hx1).1)
      | (go_at_call 27; refine (hco _).mono ?_; rintro e w2 ⟨rfl, rfl⟩; have hB2 := hB1.alloc hB1.size (.cells #[.int .i64 n, v] 24); have hR2 : ReadT w1.heap.size n v l (w1.alloc (.cells #[.int .i64 n, v] 24)) := ⟨TB.new w1 n v, hS.below hB2 (Nat.le_refl _)⟩; have hz2 : (w1.alloc (.cells #[.int .i64 n, v] 24)).heap.size = w1.heap.size + 1 := World.size_alloc _ _)
      | (go_at_call 29; refine (hcl w1 hR2 (fun g hg => by have := hvb g hg; omega)).mono ?_; rintro e w3 ⟨u, rfl, hr3, b3⟩; have hB3 := hB2.trans (b3.mono hB2.size); have hA3 := hrow u w3 (ownsRow_base hr3 (by have := hB2.size; omega)))
      | (go_at_call 30; refine (htg u w3 hA3).mono ?_; rintro e w4 ⟨rfl, b4⟩; have hB4 := hB3.trans (b4.mono hB3.size); have hB5 := hB4.alloc hB4.size (.cells #[.int .i64 S, .int .i64 M] 55); have hr5 := B2.new w4 S M; have d0 := hr5.c0; have d1 := hr5.c1; have hz3 := b3.size; have hz4 := b4.size; have hx5 : (w4.alloc (.cells #[.int .i64 S, .int .i64 M] 55)).heap[w.heap.size]? = some (.cells #[.int .i64 n, v] 24) := (Below.heap_alloc _ _ _ (by omega)).trans ((b4.block _ (by omega)).trans ((b3.block _ (by omega)).trans ((Below.heap_alloc _ _ _ hlt1).trans hx1))); (have c6 : (w4.alloc (.cells #[.int .i64 S, .int .i64 M] 55)).cell? ⟨w.heap.size, 0, none⟩ = some (.int .i64 n) := by rw [Lib.cell_of_heap hx5]; rfl))
      | (go_at_call 31; refine (hev _).mono ?_; rintro e w6 ⟨b, hb6, rfl, hI6, b6⟩; have hB6 := hB5.trans (b6.mono hB5.size); have hz6 := hB5.size))
    go_ret3
    exact hend.out b _ _ rfl (by omega) hI6 hB6
  · have hend : Hid (∀ b e w1, e = .returned (.tuple #[.slice (some ⟨b, 0, none⟩) n n, .bool false, .int .i64 0]) → w.heap.size ≤ b → IBk w1 b (groL (cols n l) q) → Below w.heap.size w w1 → WdEnd n l q w e w1) := fun b e w1 he h1 h2 h3 => ⟨h3, .inr (.inr ⟨hz, by omega, b, h1, by rw [he, show (n : Int).toNat = n from rfl, decide_eq_false htt], by rw [show (n : Int).toNat = n from rfl]; unfold wdL; rw [if_neg htt]; exact h2⟩)⟩
    clear hev
    have hgr' := fun u W hr => hgr u W hr ⟨by omega, by omega⟩
    clear hgr hMM hSS
    generalize sumS n l = S at *
    generalize sumM n l = M at *
    generalize hP : WdEnd n l q w = P at *
    go_enter Try.func11, Try.ntmps11
    go_wp2_with (first
      | (go_at_call 14; refine hck.mono ?_; rintro e w1 ⟨rfl, b1⟩; have hx1 := (b1.block w.heap.size (by omega)).trans hbx; (have c2 : w1.cell? ⟨w.heap.size, 0, none⟩ = some (.int .i64 n) := by rw [Lib.cell_of_heap hx1]; rfl); (have c3 : w1.cell? ⟨w.heap.size, 1, none⟩ = some v := by rw [Lib.cell_of_heap hx1]; rfl); have hB1 := hB0.trans (b1.mono hB0.size); have hlt1 := (Array.getElem?_eq_some_iff.1 hx1).1)
      | (go_at_call 27; refine (hco _).mono ?_; rintro e w2 ⟨rfl, rfl⟩; have hB2 := hB1.alloc hB1.size (.cells #[.int .i64 n, v] 24); have hR2 : ReadT w1.heap.size n v l (w1.alloc (.cells #[.int .i64 n, v] 24)) := ⟨TB.new w1 n v, hS.below hB2 (Nat.le_refl _)⟩; have hz2 : (w1.alloc (.cells #[.int .i64 n, v] 24)).heap.size = w1.heap.size + 1 := World.size_alloc _ _)
      | (go_at_call 29; refine (hcl w1 hR2 (fun g hg => by have := hvb g hg; omega)).mono ?_; rintro e w3 ⟨u, rfl, hr3, b3⟩; have hB3 := hB2.trans (b3.mono hB2.size); have hA3 := hrow u w3 (ownsRow_base hr3 (by have := hB2.size; omega)))
      | (go_at_call 30; refine (htg u w3 hA3).mono ?_; rintro e w4 ⟨rfl, b4⟩; have hB4 := hB3.trans (b4.mono hB3.size); have hB5 := hB4.alloc hB4.size (.cells #[.int .i64 S, .int .i64 M] 55); have hr5 := B2.new w4 S M; have d0 := hr5.c0; have d1 := hr5.c1; have hz3 := b3.size; have hz4 := b4.size; have hA5 := hA3.below (b4.alloc b4.size (.cells #[.int .i64 S, .int .i64 M] 55)) (Nat.le_refl _))
      | (go_at_call 32; refine (hgr' u _ hA5).mono ?_; rintro e w6 ⟨b, hb6, rfl, hI6, b6⟩; have hB6 := hB5.trans (b6.mono hB5.size); have hz6 := hB5.size))
    go_ret3
    exact hend.out b _ _ rfl (by omega) hI6 hB6
end Go.Proofs.Ytkhnfmdhdfpdhaa
