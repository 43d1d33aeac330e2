/-
  What is proved here: SectionApart answers true at every input, with no condition: columns lie within the page, between its margins, one right of the other, the gap between them; headers and footers lie in the margins above and below them; what is handed in stays.
-/
import Derived.Test.YtglgapmjhmeonaaApartMath
import Derived.Test.YtglgapmjhmeonaaRegF
import Derived.Test.YtglgapmjhmeonaaOpen
import Derived.Test.YtglgapmjhmeonaaSectionTells
namespace Go.Proofs.Ytglgapmjhmeonaa
open Go.RowKit Go.Shelf

namespace sectionApart
open Go.ChangeShapes Go.WideShapes Go.ChangeAt Go.RowKit

set_option maxRecDepth 100000 in
set_option maxHeartbeats 4000000 in
theorem walk (s : Sec) (hf : ∀ t ∈ texts s, t.size ≤ 9223372036854775807) (page : Int) (w : World) :
    Calls Try.prog 5 #[seV s, .int .i64 page] w fun e w' => e = .returned (.bool true) ∧ Below w.heap.size w w' := by
  have hB := (Below.refl w.heap.size w).alloc (Nat.le_refl _) (Obj.cells (seC s) 24)
  have hS := SB.new w s
  have hsmall : Hid (∀ w, Calls Try.prog 8 #[.agg (seC s)] w fun e w' => e = .returned (.bool (smB s)) ∧ Below w.heap.size w w') := small_any s hf
  have haw : Hid (∀ w, Calls Try.prog 25 #[] w fun e w' => e = .returned (.bool true) ∧ Below w.heap.size w w') := awake_any
  clear hf
  unfold seV
  go_enter Try.func5, Try.ntmps5
  go_wp2_with fail
  refine (haw.out _).mono ?_
  rintro e w0 ⟨rfl, B0⟩
  have hS0 := hS.below B0 hS.lt
  have D0 := hB.trans (B0.mono hB.size)
  go_wp2_with (refine wpList_load_row rfl 24 _ rfl w.heap.size rfl 24 _ (0, 0) _ hS0.row Try.underlying24 rfl (info24 s) ?_)
  refine (hsmall.out _).mono ?_
  rintro e w1 ⟨rfl, B1⟩
  have hS1 := hS0.below B1 hS0.lt
  have D1 := D0.trans (B1.mono D0.size)
  cases hsm : smB s
  · go_wp2_with fail
    go_ret
    exact ⟨rfl, D1⟩
  have hch : Hid (∀ w, Calls Try.prog 13 #[.agg (seC s)] w fun e w' => e = .returned (.int .i64 (checkI s)) ∧ Below w.heap.size w w') := check_any s hsm
  have hhd : Hid (∀ w, Calls Try.prog 10 #[.agg (seC s), .int .i64 page] w fun e w' => e = .returned (.tuple #[.agg (rcC (headA s page)), .int .i64 (pageI s page 1)]) ∧ Below w.heap.size w w') := head_any s hsm page
  have hft : Hid (∀ w, Calls Try.prog 11 #[.agg (seC s), .int .i64 page] w fun e w' => e = .returned (.tuple #[.agg (rcC (footA s page)), .int .i64 (pageI s page 1)]) ∧ Below w.heap.size w w') := foot_any s hsm page
  have hco : Hid (pageI s page 1 = 0 → ∀ w, Calls Try.prog 9 #[.agg (seC s), .int .i64 page] w fun e w' => ∃ g, e = .returned (.tuple #[.slice (some ⟨g, 0, none⟩) (colsL s page).length (colsL s page).length, .int .i64 0]) ∧ w.heap.size ≤ g ∧ w'.heap[g]? = some (.cells (rcRow (colsL s page)) 31 (0, 0)) ∧ Below w.heap.size w w') := fun h0 w => columns_yes s hsm page h0 w
  clear hsm hsmall haw
  go_wp2_with (refine wpList_load_want 24 _ rfl (by rfl) w.heap.size rfl 24 _ (0, 0) _ hS1.row Try.underlying24 rfl (info24 s) ?_)
  refine (hch.out _).mono ?_
  rintro e w2 ⟨rfl, B2⟩
  have hS2 := hS1.below B2 hS1.lt
  have D2 := D1.trans (B2.mono D1.size)
  by_cases hc0 : checkI s = 0
  case neg =>
    have hne : (checkI s != 0) = true := by simpa using hc0
    generalize checkI s = K at *
    go_wp2_with fail
    go_ret
    exact ⟨rfl, D2⟩
  by_cases hl1 : page < 1
  · rw [hc0]
    clear hc0
    go_wp2_with fail
    go_ret
    exact ⟨rfl, D2⟩
  by_cases hl2 : 4096 < page
  · rw [hc0]
    clear hc0
    go_wp2_with fail
    go_ret
    exact ⟨rfl, D2⟩
  have p0 : pageI s page 1 = 0 := by unfold pageI; rw [if_neg (by omega), if_neg (by omega)]
  have hco2 : Hid _ := hco.out p0
  have hmay : Hid (May s) := may_of hc0
  have hA1 : headA s page = headR s page := if_pos p0
  have hA2 : footA s page = footR s page := if_pos p0
  rw [p0, hA1] at hhd
  rw [p0, hA2] at hft
  rw [hc0]
  clear hc0 p0 hA1 hA2 hco hch
  have hlen := colsL_len s page
  have hcols := hmay.out.cols
  have hln : ((colsL s page).length : Int) = s.cols := by rw [hlen]; omega
  have hrow : Hid (∀ (G : Nat) (W : World), W.heap[G]? = some (.cells (rcRow (colsL s page)) 31 (0, 0)) → ∀ i : Nat, i < (colsL s page).length → W.cell? ⟨G, i * 4, none⟩ = some (.int .i64 (colR s page i).x) ∧ W.cell? ⟨G, i * 4 + 1, none⟩ = some (.int .i64 (colR s page i).y) ∧ W.cell? ⟨G, i * 4 + 2, none⟩ = some (.int .i64 (colR s page i).w) ∧ W.cell? ⟨G, i * 4 + 3, none⟩ = some (.int .i64 (colR s page i).h)) := fun G W h => row_cells h
  obtain ⟨cells, hcells⟩ : ∃ cells, rcRow (colsL s page) = cells := ⟨_, rfl⟩
  rw [hcells] at hco2 hrow
  clear hcells
  generalize (colsL s page).length = n at *
  clear hlen
  go_wp2_with (refine wpList_load_row rfl 24 _ rfl w.heap.size rfl 24 _ (0, 0) _ hS2.row Try.underlying24 rfl (info24 s) ?_)
  refine (hco2.out _).mono ?_
  rintro e w3 ⟨G, rfl, hg, hG0, B3⟩
  have hS3 := hS2.below B3 hS2.lt
  have D3 := D2.trans (B3.mono D2.size)
  have hG : Hid (w3.heap[G]? = some (.cells cells 31 (0, 0))) := hG0
  clear hG0 hg hco2
  go_wp2_with (refine wpList_load_row rfl 24 _ rfl w.heap.size rfl 24 _ (0, 0) _ hS3.row Try.underlying24 rfl (info24 s) ?_)
  refine (hhd.out _).mono ?_
  rintro e w4 ⟨rfl, B4⟩
  have hS4 := hS3.below B4 hS3.lt
  have D4 := D3.trans (B4.mono D3.size)
  have hG4 : Hid (w4.heap[G]? = some (.cells cells 31 (0, 0))) := (B4.block G (Array.getElem?_eq_some_iff.1 hG.out).1).trans hG.out
  obtain ⟨R4, X4⟩ := rect_new w4 (headR s page)
  go_wp2_with (first
    | (refine wpList_store_row rfl 31 _ _ rfl w4.heap.size (rcC (headR s page)) rfl rfl 31 _ (heap_new w4 _) (by kernel_rfl) (by rfl) (rcC_one _) ?_
       obtain ⟨y4, hy4⟩ : ∃ y, (w4.alloc (.cells #[.int .i64 0, .int .i64 0, .int .i64 0, .int .i64 0] 31)).setRow w4.heap.size (rcC (headR s page)) = y := ⟨_, rfl⟩
       rw [hy4] at R4 X4 ⊢
       clear hy4
       have hS5 := hS4.below R4 hS4.lt
       have D5 := D4.trans (R4.mono D4.size)
       have hG5 : Hid (y4.heap[G]? = some (.cells cells 31 (0, 0))) := (R4.block G (Array.getElem?_eq_some_iff.1 hG4.out).1).trans hG4.out
       have H5 : Hid (y4.heap[w4.heap.size]? = some (.cells (rcC (headR s page)) 31 (0, 0))) := X4
       clear X4 R4 hG4 hS4)
    | refine wpList_load_row rfl 24 _ rfl w.heap.size rfl 24 _ (0, 0) _ hS5.row Try.underlying24 rfl (info24 s) ?_)
  refine (hft.out _).mono ?_
  rintro e w6 ⟨rfl, B6⟩
  have hS6 := hS5.below B6 hS5.lt
  have D6 := D5.trans (B6.mono D5.size)
  have hG6 : Hid (w6.heap[G]? = some (.cells cells 31 (0, 0))) := (B6.block G (Array.getElem?_eq_some_iff.1 hG5.out).1).trans hG5.out
  have H6 : Hid (w6.heap[w4.heap.size]? = some (.cells (rcC (headR s page)) 31 (0, 0))) := (B6.block _ (Array.getElem?_eq_some_iff.1 H5.out).1).trans H5.out
  obtain ⟨R6, X6⟩ := rect_new w6 (footR s page)
  clear hG5 H5 hhd hft
  have hc6n : ((n : Int) != s.cols) = false := by simpa using hln
  go_wp2_with (first
    | (refine wpList_store_row rfl 31 _ _ rfl w6.heap.size (rcC (footR s page)) rfl rfl 31 _ (heap_new w6 _) (by kernel_rfl) (by rfl) (rcC_one _) ?_
       obtain ⟨y6, hy6⟩ : ∃ y, (w6.alloc (.cells #[.int .i64 0, .int .i64 0, .int .i64 0, .int .i64 0] 31)).setRow w6.heap.size (rcC (footR s page)) = y := ⟨_, rfl⟩
       rw [hy6] at R6 X6 ⊢
       clear hy6
       have hS7 := hS6.below R6 hS6.lt
       have D7 := D6.trans (R6.mono D6.size)
       have hG7 : Hid (y6.heap[G]? = some (.cells cells 31 (0, 0))) := (R6.block G (Array.getElem?_eq_some_iff.1 hG6.out).1).trans hG6.out
       have H7 : Hid (y6.heap[w4.heap.size]? = some (.cells (rcC (headR s page)) 31 (0, 0))) := (R6.block _ (Array.getElem?_eq_some_iff.1 H6.out).1).trans H6.out
       have F7 : Hid (y6.heap[w6.heap.size]? = some (.cells (rcC (footR s page)) 31 (0, 0))) := X6
       have c6 := hS7.c6
       have c0 := hS7.c0
       have c1 := hS7.c1
       obtain ⟨R8, X8⟩ := rect_new y6 (allR s)
       clear X6 R6 hG6 H6 hS6)
    | (refine wpList_store_row rfl 31 _ _ rfl y6.heap.size (rcC (allR s)) rfl rfl 31 _ (heap_new y6 _) (by kernel_rfl) (by rfl) (rcC_one _) ?_
       obtain ⟨y8, hy8⟩ : ∃ y, (y6.alloc (.cells #[.int .i64 0, .int .i64 0, .int .i64 0, .int .i64 0] 31)).setRow y6.heap.size (rcC (allR s)) = y := ⟨_, rfl⟩
       rw [hy8] at R8 X8 ⊢
       clear hy8
       have hS8 := hS7.below R8 hS7.lt
       have D8 := D7.trans (R8.mono D7.size)
       have hG8 : Hid (y8.heap[G]? = some (.cells cells 31 (0, 0))) := (R8.block G (Array.getElem?_eq_some_iff.1 hG7.out).1).trans hG7.out
       have H8 : Hid (y8.heap[w4.heap.size]? = some (.cells (rcC (headR s page)) 31 (0, 0))) := (R8.block _ (Array.getElem?_eq_some_iff.1 H7.out).1).trans H7.out
       have F8 : Hid (y8.heap[w6.heap.size]? = some (.cells (rcC (footR s page)) 31 (0, 0))) := (R8.block _ (Array.getElem?_eq_some_iff.1 F7.out).1).trans F7.out
       have A8 : Hid (y8.heap[y6.heap.size]? = some (.cells (rcC (allR s)) 31 (0, 0))) := X8
       clear X8 R8 hG7 H7 F7 hS7 c6 c0 c1))
  have hn0 : 0 < n := by omega
  have hn8 : n ≤ 8 := by omega
  have hlH : Hid ((n : Int) = s.cols) := hln
  clear hc6n hln
  go_loopw [13] (fun q wr => ∃ k : Nat, k ≤ n ∧ q = .int .i64 k ∧ Below y8.heap.size y8 wr) (fun q _ => n - (intOf q).toNat)
  case atStart => exact ⟨0, Nat.zero_le _, rfl, Below.refl _ _⟩
  case round =>
    obtain ⟨k, hk, rfl, hb⟩ := hrel
    have hSr := hS8.below hb hS8.lt
    have hGr : Hid (wr.heap[G]? = some (.cells cells 31 (0, 0))) := (hb.block G (Array.getElem?_eq_some_iff.1 hG8.out).1).trans hG8.out
    have hGl : G < wr.heap.size := (Array.getElem?_eq_some_iff.1 hGr.out).1
    have hcc : Hid _ := hrow.out G wr hGr.out
    by_cases hlt : k < n
    · have hAr : Hid (wr.heap[y6.heap.size]? = some (.cells (rcC (allR s)) 31 (0, 0))) := (hb.block _ (Array.getElem?_eq_some_iff.1 A8.out).1).trans A8.out
      have hlt' : (k : Int) < n := by omega
      have hkc : (k : Int) < s.cols := by have := hlH.out; omega
      go_wp2_with fail
      refine apart_region13 _ (fun _ _ _ _ _ h => h) _ _ w.heap.size G y6.heap.size n k s (fun i => colR s page i) (allR s) hmay.out.toNumOk hn0 hlt rfl rfl rfl (span_in hmay.out page).1 (col_within hmay.out page hkc) wr hSr hGl hcc.out hAr.out ?_
      intro x1 E1
      have hS1' := hSr.below E1 hSr.lt
      have D1' := hb.trans (E1.mono hb.size)
      have hG1 : Hid (x1.heap[G]? = some (.cells cells 31 (0, 0))) := (E1.block G hGl).trans hGr.out
      have hGl1 : G < x1.heap.size := (Array.getElem?_eq_some_iff.1 hG1.out).1
      have hcc1 : Hid _ := hrow.out G x1 hG1.out
      unfold fr5
      by_cases hk0 : k = 0
      · go_wp2_with fail
        refine apart_region15z _ (fun _ _ _ _ _ h => h) _ _ k hk0 x1 ?_
        intro x2 E2
        have D2' := D1'.trans (E2.mono D1'.size)
        clear hk0
        unfold fr5
        go_wp2_with fail
        go_roundw
        case rel => exact ⟨k + 1, by omega, by simp, D2'⟩
        case measure => simp [intOf]; omega
      · obtain ⟨m, hm⟩ : ∃ m, k = m + 1 := ⟨k - 1, by omega⟩
        have hkm : (k : Int) - 1 = (m : Int) := by omega
        have hxx : (colR s page k).x = (colR s page m).x + (colR s page m).w + s.gap := by have := col_next s page m; rw [← hm] at this; exact this
        obtain ⟨z1, z2⟩ := col_end hmay.out page (i := m) (by have := hlH.out; omega)
        obtain ⟨z3, z4⟩ := col_end hmay.out page hkc
        obtain ⟨g1, g2, g3, _⟩ := span_in hmay.out page
        have g4 := hmay.out.w
        have hwm : (colR s page m).w = wideI s := rfl
        have b1 : -1000000 ≤ (colR s page m).x + (colR s page m).w ∧ (colR s page m).x + (colR s page m).w ≤ 1000000 := by omega
        have b2 : -1000000 ≤ (colR s page k).x ∧ (colR s page k).x ≤ 1000000 := by omega
        have hmn : m < n := by omega
        have hk8 : k ≤ 8 := by omega
        clear hm z1 z2 z3 z4 g1 g2 g3 g4 hwm hk0
        go_wp2_with fail
        refine apart_region15 _ (fun _ _ _ _ _ h => h) _ _ w.heap.size G n k m s (fun i => colR s page i) hlt hmn hkm hk8 hxx b1 b2 x1 hS1' hGl1 hcc1.out ?_
        intro x2 E2
        have D2' := D1'.trans (E2.mono D1'.size)
        clear hkm hxx b1 b2 hmn
        unfold fr5
        go_wp2_with fail
        go_roundw
        case rel => exact ⟨k + 1, by omega, by simp, D2'⟩
        case measure => simp [intOf]; omega
    · have hkn : k = n := by omega
      have hge : ¬ (k : Int) < n := by omega
      obtain ⟨m, hm⟩ : ∃ m, n = m + 1 := ⟨n - 1, by omega⟩
      have hmi : (n : Int) - 1 = (m : Int) := by omega
      have hmn : m < n := by omega
      obtain ⟨l0, l1, l2, l3⟩ := hcc.out m hmn
      have hlast : Hid ((m : Int) = s.cols - 1) := by show _ = _; have := hlH.out; omega
      obtain ⟨R9, X9⟩ := rect_new wr (colR s page m)
      clear hm hkn hlt
      go_wp2_with (first
        | (refine wpList_store_row rfl 31 _ _ rfl wr.heap.size (rcC (colR s page m)) rfl rfl 31 _ (heap_new wr _) (by kernel_rfl) (by rfl) (rcC_one _) ?_
           obtain ⟨y9, hy9⟩ : ∃ y, (wr.alloc (.cells #[.int .i64 0, .int .i64 0, .int .i64 0, .int .i64 0] 31)).setRow wr.heap.size (rcC (colR s page m)) = y := ⟨_, rfl⟩
           rw [hy9] at R9 X9 ⊢
           clear hy9))
      have E9 := hb.trans (R9.mono hb.size)
      have D9 := D8.trans (E9.mono D8.size)
      have hall : Hid (∀ W, Below y9.heap.size y9 W → SB W w.heap.size s ∧ W.heap[w4.heap.size]? = some (.cells (rcC (headR s page)) 31 (0, 0)) ∧ W.heap[w6.heap.size]? = some (.cells (rcC (footR s page)) 31 (0, 0)) ∧ W.heap[wr.heap.size]? = some (.cells (rcC (colR s page m)) 31 (0, 0)) ∧ W.heap[G]? = some (.cells cells 31 (0, 0))) := fun W hW => by
        have E := E9.trans (hW.mono E9.size)
        exact ⟨hS8.below E hS8.lt, (E.block _ (Array.getElem?_eq_some_iff.1 H8.out).1).trans H8.out, (E.block _ (Array.getElem?_eq_some_iff.1 F8.out).1).trans F8.out, (hW.block _ (Array.getElem?_eq_some_iff.1 X9).1).trans X9, (E.block _ (Array.getElem?_eq_some_iff.1 hG8.out).1).trans hG8.out⟩
      obtain ⟨a1, a2, a3, a4, a5⟩ := hall.out y9 (Below.refl _ _)
      have hm9 := hmay.out
      obtain ⟨g1, g2, g3, g4, g5, g6⟩ := span_in hm9 page
      have ge := col_last (s := s) page hlast.out
      have gz := col_zero s page
      obtain ⟨zz1, zz2⟩ := col_end hm9 page (i := m) (by have := hlH.out; omega)
      have gw := hm9.w
      have gi := hm9.inner
      have go := hm9.outer
      have gh := hm9.h
      have gb := hm9.bottom
      have hwm : (colR s page m).w = wideI s := rfl
      have hGl9 : G < y9.heap.size := (Array.getElem?_eq_some_iff.1 a5).1
      have M1 : Hid (s.inner + s.outer ≤ (colR s page (0 : Nat)).x + s.w - (colR s page m).x - (colR s page m).w) := by show _ ≤ _; omega
      have M2 : Hid ((colR s page (0 : Nat)).x + s.w - (colR s page m).x - (colR s page m).w < s.inner + s.outer + s.cols) := by show _ < _; omega
      have V1 : -1000000 ≤ (colR s page (0 : Nat)).x ∧ (colR s page (0 : Nat)).x ≤ 1000000 := by omega
      have V2 : 0 ≤ s.w ∧ s.w ≤ 1000000 := by omega
      have V3 : -1000000 ≤ (colR s page m).x ∧ (colR s page m).x ≤ 1000000 := by omega
      have V4 : -1000000 ≤ (colR s page m).w ∧ (colR s page m).w ≤ 1000000 := by omega
      have hwi1 := head_within hm9 page
      have hwi2 := foot_within hm9 page
      refine apart_region18 _ (fun _ _ _ _ _ h => h) _ _ w.heap.size G wr.heap.size n s (fun i => colR s page i) (colR s page m) hn0 V1 V2 V3 V4 y9 a1 hGl9 (hrow.out G y9 a5) a4 ?_
      intro x2 E2
      obtain ⟨d1, d2, d3, d4, d5⟩ := hall.out x2 E2
      have D10 := D9.trans (E2.mono D9.size)
      unfold fr5
      obtain ⟨M, hM⟩ : ∃ M, (colR s page (0 : Nat)).x + s.w - (colR s page m).x - (colR s page m).w = M := ⟨_, rfl⟩
      rw [hM] at M1 M2
      rw [hM]
      have M1' := M1.out
      have M2' := M2.out
      have hdx : (headR s page).x = leftI s page ∧ (headR s page).w = spanI s ∧ (footR s page).x = leftI s page := ⟨rfl, rfl, rfl⟩
      have e1 : (headR s page).x = (colR s page (0 : Nat)).x := by rw [gz]; rfl
      have e2 : (footR s page).x = (colR s page (0 : Nat)).x := by rw [gz]; rfl
      have e3 : (headR s page).x + (headR s page).w = (colR s page m).x + (colR s page m).w := by omega
      have e4 : -1000000 ≤ (headR s page).x + (headR s page).w ∧ (headR s page).x + (headR s page).w ≤ 1000000 := by omega
      clear hM M1 M2 V1 V2 V3 V4 a1 a2 a3 a4 a5 g1 g2 g3 g4 g5 zz1 zz2 hwm l0 l1 l2 l3 X9 R9 hS8 hG8 H8 F8 A8
      go_wp2_with fail
      simp only [List.append_eq, List.cons_append, List.nil_append]
      refine apart_region19 _ (fun _ _ _ _ _ h => h) _ _ w.heap.size G w4.heap.size w6.heap.size wr.heap.size n s (fun i => colR s page i) (headR s page) (footR s page) (colR s page m) M hn0 hm9.toNumOk M1' M2' e1 e2 e3 e4 hwi1 hwi2 x2 d1 (Array.getElem?_eq_some_iff.1 d5).1 (hrow.out G x2 d5) d2 d3 d4 ?_
      intro x3 E3
      have D11 := D10.trans (E3.mono D10.size)
      unfold fr5
      go_wp2_with fail
      go_ret
      exact ⟨rfl, D11⟩
set_option maxRecDepth 100000 in
theorem lifted (os : Os) (started : os.Started) (H : Type) (enc : TypeId × Value → H) :
    ReturnsInHanded {} Try.checked os 5 .any (Rows.sectionApartSpec.pre6 enc Try.prog Try.f5 Rows.sectionApartRow.domain false) (Rows.sectionApartSpec.post enc Try.prog Try.f5 false true false false) := by
  refine returnsInHanded_of_change (C := Try.checked) own started (by kernel_rfl) Try.func5
    (ChangeSpec.witness6 (enc := enc) (C := Try.checked) false ⟨#[], #[.agg #[.int .i64 0, .int .i64 0, .int .i64 0, .int .i64 0, .int .i64 0, .int .i64 0, .int .i64 0, .int .i64 0, .int .i64 0, .int .i64 0, .int .i64 0, .string ⟨#[]⟩, .string ⟨#[]⟩, .string ⟨#[]⟩, .string ⟨#[]⟩, .string ⟨#[]⟩, .string ⟨#[]⟩], .int .i64 0], []⟩ 8 (by kernel_rfl) (by kernel_rfl) (by kernel_rfl) (by kernel_rfl)) ?_
  intro W base args ds gs before hval0 hW hcnd _
  have hval : ∀ (j : Nat) t v, Try.f5.params[j]? = some t → args[j]? = some v → Value.okWide Try.prog W .any base t v := hval0
  have hW' := hW
  obtain ⟨p, q, hA0, hV, rfl, hfz, hnd⟩ := hW
  have hA : DataW.TrodAll enc Try.prog W 0 (fun _ => true) true Try.f5.params.toList args.toList ds p := hA0
  rw [Try.params5] at hA hval
  obtain ⟨v0, vs0, d0, ds0, p0, q0, hargs, rfl, rfl, h0, r0⟩ := trodAll_cons hA
  obtain ⟨v1, vs1, d1, ds1, p1, q1, rfl, rfl, rfl, h1, r1⟩ := trodAll_cons r0
  obtain ⟨rfl, rfl, rfl⟩ := trodAll_nil r1
  obtain rfl : args = #[v0, v1] := by cases args; simp_all
  obtain ⟨rfl, rfl⟩ := trodVars_none hV
  have k0 := h0
  have lt0 : ∀ x ∈ p0, x.block < W.heap.size := by obtain ⟨m, hm⟩ := k0; exact DataW.trod_lt m _ _ _ hm
  obtain ⟨s, rfl, hsz⟩ := open_sec (hval 0 24 v0 rfl rfl) h0
  obtain ⟨a1, rfl, rfl, rfl, w1⟩ := open_int Try.underlying3 (hval 1 3 v1 rfl rfl) h1
  clear hA0 hval0
  refine (walk s hsz a1 W).mono fun e W' ⟨he, bel⟩ => ?_
  subst he
  exact ⟨_, rfl, _, _, _, [], _, [], hW', trodAll_mk1 (shut_bool Try.underlying4 _), (trodAll_cons_mk (Below.trod laidOut (by kernel_rfl) (of_decide_eq_true (by kernel_rfl)) k0 bel lt0) (trodAll_cons_mk (shut_int Try.underlying3 w1) trodAll_mk0)), rfl, bel.frame _, fun h => by cases h⟩

theorem over : Rows.sectionApartRow.holds Try.pinned (OpenSpec.ofChange Rows.sectionApartSpec) :=
  OpenClaim.holds_of_wide 5 Try.f5 rfl rfl rfl rfl rfl rfl rfl ⟨rfl, rfl, rfl, rfl, rfl⟩ rfl rfl rfl rfl rfl (by kernel_rfl) Try.func5 (by kernel_rfl)
    (of_decide_eq_true (by kernel_rfl)) (by unfold Func.isWrapper; first | (rw [if_pos (by decide +kernel)]; kernel_rfl) | (rw [if_neg (by decide +kernel)]; exact ⟨rfl, rfl⟩))
    (fun os started H enc _ => lifted os started H enc)

end sectionApart

theorem sectionApart_holds : Rows.SectionApartSaid := sectionApart.over

end Go.Proofs.Ytglgapmjhmeonaa
