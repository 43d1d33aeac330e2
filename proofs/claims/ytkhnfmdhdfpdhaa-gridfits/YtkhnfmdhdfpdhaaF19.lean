/-
  What is proved here: GridFits answers true, a case.
  What is proved here: GridFits answers true, a case.
-/
import Derived.Test.YtkhnfmdhdfpdhaaF17
import Derived.Deep.QuietTactic
import Derived.BigQuiet
import Derived.Test.YtkhnfmdhdfpdhaaF18
namespace Go.Proofs.Ytkhnfmdhdfpdhaa
open Go.RowKit Go.Shelf

set_option maxRecDepth 100000 in
set_option maxHeartbeats 8000000 in
theorem fits_part (c : Int) (v : Value) (l : List ByteArray) (q : Int) (hl : l.length ≤ 9223372036854775807) (hsz : ∀ t ∈ l, t.size ≤ 9223372036854775807) (w : World) (hS : StrsAt w v l) (h100 : ¬ 100 < l.length) (hz : chkG c l = 0) (hq : 0 ≤ q ∧ q ≤ 4095) (htt0 : ¬ q < sumS c.toNat l) (hge0 : ¬ q ≤ smI (leM c.toNat l c.toNat) c.toNat) :
    Calls Try.prog 5 #[.agg #[.int .i64 c, v], .int .i64 q] w fun e w' => e = .returned (.bool true) ∧ Below w.heap.size w w' := by
  have hB0 := (Below.refl w.heap.size w).alloc (Nat.le_refl _) (.cells #[.int .i64 c, v] 24)
  have hS0 := hS.below hB0 (Nat.le_refl _)
  have hs0 : (w.alloc (.cells #[.int .i64 c, v] 24)).heap.size = w.heap.size + 1 := World.size_alloc _ _
  have hbx : (w.alloc (.cells #[.int .i64 c, v] 24)).heap[w.heap.size]? = some (.cells #[.int .i64 c, v] 24) := World.alloc_heap_new w _
  have hkn := known_any
  have hwd := fun W h => widths_any c v l q hl hsz W h
  have hle := fun W h => gleast_any c v l hl hsz W h
  have hmo := fun W h => gmost_any c v l hl hsz W h
  obtain ⟨a, cap, rfl, -⟩ := hS.ex
  clear hS
  have hgt : ¬ (100 : Int) < (l.length : Int) := by omega
  obtain ⟨n, rfl, hn1, hl1, hd1, hC1⟩ := chk_ok hz
  have hT : Tab n l := ⟨hn1, hl1, hd1, hC1⟩
  obtain ⟨n1, n2⟩ := hn1
  replace htt0 : ¬ q < sumS n l := htt0
  replace hge0 : ¬ q ≤ smI (leM n l n) n := hge0
  have hfit := fit_of hT hq
  have hSB : q < sumS n l → q ≤ smI (leM n l n) n := fun h => by
    have h1 := (cols_few hT).tot n (by rw [cols_len]; omega)
    rw [sm_leM n l n (Nat.le_refl _)]
    have h2 : sumS n l = tot (sAt (cols n l)) n := rfl
    omega
  have hw : ∀ W, StrsAt W (.slice a l.length cap) l → Calls Try.prog 11 #[.agg #[.int .i64 n, .slice a l.length cap], .int .i64 q] W fun e w' => ∃ b, e = .returned (.tuple #[.slice (some ⟨b, 0, none⟩) n n, .bool (decide (q < sumS n l)), .int .i64 0]) ∧ InAt w' (.slice (some ⟨b, 0, none⟩) n n) (wdL n l q) ∧ Below W.heap.size W w' := fun W h => by
    refine (hwd W h).mono ?_
    rintro e w' ⟨hb, h | h | h⟩
    · exact absurd hz h.1
    · exact absurd hq h.2.1
    · obtain ⟨_, _, b, _, he, hi⟩ := h
      have := hi.at
      rw [show ((n : Int)).toNat = n from rfl, hfit.hl] at this
      exact ⟨b, he, this, hb⟩
  have hA : ∀ W, StrsAt W (.slice a l.length cap) l → Calls Try.prog 7 #[.agg #[.int .i64 n, .slice a l.length cap]] W fun e w' => ∃ a' c', e = .returned (.tuple #[.slice a' n c', .int .i64 0]) ∧ InAt w' (.slice a' n c') (leS n l n) ∧ Below W.heap.size W w' := fun W h => by
    refine (hle W h).mono ?_
    rintro e w' (⟨h, _⟩ | ⟨_, u, he, ⟨hr, _⟩, hb⟩)
    · exact absurd hz h
    · have hi := in_of_row hfit.ha.symm hr
      obtain ⟨a', c', rfl, -⟩ := hi.ex
      rw [hfit.ha] at he hi
      exact ⟨a', c', he, hi, hb⟩
  have hB : ∀ W, StrsAt W (.slice a l.length cap) l → Calls Try.prog 9 #[.agg #[.int .i64 n, .slice a l.length cap]] W fun e w' => ∃ a' c', e = .returned (.tuple #[.slice a' n c', .int .i64 0]) ∧ InAt w' (.slice a' n c') (leM n l n) ∧ Below W.heap.size W w' := fun W h => by
    refine (hmo W h).mono ?_
    rintro e w' (⟨h, _⟩ | ⟨_, u, he, ⟨hr, _⟩, hb⟩)
    · exact absurd hz h
    · have hi := in_of_row hfit.hb.symm hr
      obtain ⟨a', c', rfl, -⟩ := hi.ex
      rw [hfit.hb] at he hi
      exact ⟨a', c', he, hi, hb⟩
  clear hwd hle hmo
  generalize wdL n l q = L at *
  generalize leS n l n = A at *
  generalize leM n l n = B at *
  generalize sumS n l = S at *
  obtain ⟨fl, fa, fb, fle, feq, fsa, flo, fin, fra, frb⟩ := hfit
  have hsL : ∀ u W, InAt W u L → Calls Try.prog 25 #[u] W fun e w' => e = .returned (.int .i64 (smI L n)) ∧ w' = W := fun u W h => by
    have := gsum_any u L 4095 (by omega) (by omega) (by rw [fl]; exact flo) W h
    rwa [fl] at this
  have hsA : ∀ u W, InAt W u A → Calls Try.prog 25 #[u] W fun e w' => e = .returned (.int .i64 S) ∧ w' = W := fun u W h => by
    have := gsum_any u A 819004 (by omega) (by omega) (by rw [fa]; exact fra) W h
    rwa [fa, fsa] at this
  have hsB : ∀ u W, InAt W u B → Calls Try.prog 25 #[u] W fun e w' => e = .returned (.int .i64 (smI B n)) ∧ w' = W := fun u W h => by
    have := gsum_any u B 819004 (by omega) (by omega) (by rw [fb]; exact frb) W h
    rwa [fb] at this
  generalize smI L n = SL at *
  generalize smI B n = SB at *
  clear fsa hz hd1 hC1 hl1 hT
  have k1 : True := trivial
  have k2 : True := trivial
  have hfle : ¬ q < SL := by omega
  have htt : ¬ q < S := htt0
  have hge : ¬ q ≤ SB := hge0
  clear htt0 hge0
  rw [decide_eq_false htt] at hw
  go_enter Try.func5, Try.ntmps5
  go_wp2_with (first
    | (go_at_call 4; refine (hkn _).mono ?_; rintro e w1 ⟨rfl, b1⟩; have hx1 := (b1.block w.heap.size (by omega)).trans hbx; (have c0 : w1.cell? ⟨w.heap.size, 0, none⟩ = some (.int .i64 n) := by rw [Lib.cell_of_heap hx1]; rfl); (have c1 : w1.cell? ⟨w.heap.size, 1, none⟩ = some (.slice a l.length cap) := by rw [Lib.cell_of_heap hx1]; rfl); have hB1 := hB0.trans (b1.mono hB0.size); have hS1 := hS0.below b1 (Nat.le_refl _); have hlt1 := (Array.getElem?_eq_some_iff.1 hx1).1)
    | (go_at_call 11; refine (hw _ hS1).mono ?_; rintro e w2 ⟨bL, rfl, hL2, b2⟩; have hB2 := hB1.trans (b2.mono hB1.size); have hS2 := hS1.below b2 (Nat.le_refl _); have hx2 := (b2.block w.heap.size hlt1).trans hx1; have hlt2 := (Array.getElem?_eq_some_iff.1 hx2).1; (have c20 : w2.cell? ⟨w.heap.size, 0, none⟩ = some (.int .i64 n) := by rw [Lib.cell_of_heap hx2]; rfl); (have c21 : w2.cell? ⟨w.heap.size, 1, none⟩ = some (.slice a l.length cap) := by rw [Lib.cell_of_heap hx2]; rfl))
    | (go_at_call 7; refine (hA _ hS2).mono ?_; rintro e w3 ⟨aA, cA, rfl, hA3, b3⟩; have hL3 := hL2.below b3 (Nat.le_refl _); have hB3 := hB2.trans (b3.mono hB2.size); have hS3 := hS2.below b3 (Nat.le_refl _); have hx3 := (b3.block w.heap.size hlt2).trans hx2; have hlt3 := (Array.getElem?_eq_some_iff.1 hx3).1; (have c30 : w3.cell? ⟨w.heap.size, 0, none⟩ = some (.int .i64 n) := by rw [Lib.cell_of_heap hx3]; rfl); (have c31 : w3.cell? ⟨w.heap.size, 1, none⟩ = some (.slice a l.length cap) := by rw [Lib.cell_of_heap hx3]; rfl))
    | (go_at_call 9; refine (hB _ hS3).mono ?_; rintro e w4 ⟨aB, cB, rfl, hB4', b4⟩; have hL4 := hL3.below b4 (Nat.le_refl _); have hA4 := hA3.below b4 (Nat.le_refl _); have hB4 := hB3.trans (b4.mono hB3.size); have hS4 := hS3.below b4 (Nat.le_refl _); have hx4 := (b4.block w.heap.size hlt3).trans hx3; have hlt4 := (Array.getElem?_eq_some_iff.1 hx4).1; (have c40 : w4.cell? ⟨w.heap.size, 0, none⟩ = some (.int .i64 n) := by rw [Lib.cell_of_heap hx4]; rfl); (have c41 : w4.cell? ⟨w.heap.size, 1, none⟩ = some (.slice a l.length cap) := by rw [Lib.cell_of_heap hx4]; rfl))
    | (go_at_call 25; clear k1; refine (hsL _ _ hL4).mono ?_; rintro e w5 ⟨rfl, rfl⟩)
    | (go_at_call 25; clear k2; refine (hsB _ _ hB4').mono ?_; rintro e w6 ⟨rfl, rfl⟩)
    | (go_at_call 25; refine (hsA _ _ hA4).mono ?_; rintro e w8 ⟨rfl, rfl⟩))
  clear hw hA hB hsL hsA hsB hkn
  go_loopw [13] (fun i wr => ∃ k : Nat, k ≤ n ∧ i = .int .i64 k ∧ Below w8.heap.size w8 wr) (fun i _ => n - (RowKit.intOf i).toNat)
  case atStart => exact ⟨0, by omega, rfl, Below.refl _ _⟩
  case round =>
    obtain ⟨k, hk, rfl, hb⟩ := hrel
    by_cases hlt : k < n
    · have hkl : (k : Int) < n := by omega
      obtain ⟨b1, o1, p1, e1, d1⟩ := in_cell hL4 hb (by omega : k < L.length)
      obtain ⟨b2, o2, p2, e2, d2⟩ := in_cell hA4 hb (by omega : k < A.length)
      obtain ⟨b3, o3, p3, e3, d3⟩ := in_cell hB4' hb (by omega : k < B.length)
      rw [fl] at e1
      rw [fa] at e2
      rw [fb] at e3
      cases e1
      cases e2
      cases e3
      rw [Nat.zero_add] at d1
      have hx := flo k hlt
      have hlo : ¬ L.getD k 0 < 0 := by omega
      have hii := fin htt k hlt
      have hi1 : ¬ L.getD k 0 < A.getD k 0 := by omega
      have hi2 : ¬ B.getD k 0 < L.getD k 0 := by omega
      generalize L.getD k 0 = x at *
      generalize A.getD k 0 = y at *
      generalize B.getD k 0 = z at *
      clear hL4 hA4 hB4' flo fin fra frb
      go_wp2_with fail
      go_quiet (fail)
      go_wp2_with fail
      go_roundw
      case rel => exact ⟨k + 1, by omega, by simp, ⟨hb.os, hb.tape, hb.output, hb.size, hb.block⟩⟩
      case measure => simp [RowKit.intOf]; omega
    · obtain rfl : k = n := by omega
      have hge : ¬ (k : Int) < k := by omega
      go_wp2_with fail
      go_ret
      exact ⟨rfl, hB4.trans (hb.mono hB4.size)⟩
end Go.Proofs.Ytkhnfmdhdfpdhaa

namespace Go.Proofs.Ytkhnfmdhdfpdhaa
open Go.RowKit Go.Shelf

theorem fits_any (c : Int) (v : Value) (l : List ByteArray) (q : Int) (hl : l.length ≤ 9223372036854775807) (hsz : ∀ t ∈ l, t.size ≤ 9223372036854775807) (w : World) (hS : StrsAt w v l) :
    Calls Try.prog 5 #[.agg #[.int .i64 c, v], .int .i64 q] w fun e w' => e = .returned (.bool true) ∧ Below w.heap.size w w' := by
  by_cases h100 : 100 < l.length
  · exact fits_many c v l q hl hsz w hS h100
  by_cases hz : chkG c l = 0
  · by_cases hq : 0 ≤ q ∧ q ≤ 4095
    · by_cases htt : q < sumS c.toNat l
      · exact fits_tight c v l q hl hsz w hS h100 hz hq htt
      · by_cases hge : q ≤ smI (leM c.toNat l c.toNat) c.toNat
        · exact fits_full c v l q hl hsz w hS h100 hz hq htt hge
        · exact fits_part c v l q hl hsz w hS h100 hz hq htt hge
    · exact fits_err c v l q hl hsz w hS h100 (.inr hq)
  · exact fits_err c v l q hl hsz w hS h100 (.inl hz)
end Go.Proofs.Ytkhnfmdhdfpdhaa
