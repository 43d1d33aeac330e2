/-
  What is proved here: SectionNext answers true at every input, with no condition: a section begins on the next page or the one behind that, as it is told to; each page has just one variant; what is handed in stays.
-/
import Derived.Test.YtglgapmjhmeonaaAwake
import Derived.Test.YtglgapmjhmeonaaWalkJ
import Derived.Test.YtglgapmjhmeonaaOpen
namespace Go.Proofs.Ytglgapmjhmeonaa
namespace sectionNext
open Go.ChangeShapes Go.WideShapes Go.ChangeAt Go.RowKit Go.Shelf

theorem page_zero {s : Sec} {p least : Int} (h : checkI s = 0) (h1 : least ≤ p) (h2 : p ≤ 4096) : pageI s p least = 0 := by
  unfold pageI; rw [if_neg (by omega), if_neg (by omega)]
theorem var_no {s : Sec} {p : Int} (hp : 0 ≤ p) : variantI s p false = 2 - p.tmod 2 := by
  unfold variantI
  rw [Int.tmod_eq_emod_of_nonneg hp]
  by_cases h : p % 2 = 0
  · simp [h]
  · have : p % 2 = 1 := by omega
    simp [this]
theorem var_own {s : Sec} {p : Int} (h : empB s.h0 = false ∨ empB s.f0 = false) : variantI s p true = 0 := by
  unfold variantI; rcases h with h | h <;> simp [h]
theorem var_plain {s : Sec} {p : Int} (hp : 0 ≤ p) (h : empB s.h0 = true) (h' : empB s.f0 = true) : variantI s p true = 2 - p.tmod 2 := by
  unfold variantI
  rw [Int.tmod_eq_emod_of_nonneg hp]
  by_cases h2 : p % 2 = 0
  · simp [h, h', h2]
  · have : p % 2 = 1 := by omega
    simp [h, h', this]

set_option maxRecDepth 100000 in
set_option maxHeartbeats 4000000 in
theorem walk (s : Sec) (hf : ∀ t ∈ texts s, t.size ≤ 9223372036854775807) (last : Int) (w : World) :
    Calls Try.prog 6 #[seV s, .int .i64 last] w fun e w' => e = .returned (.bool true) ∧ Below w.heap.size w w' := by
  have hB := (Below.refl w.heap.size w).alloc (Nat.le_refl _) (Obj.cells (seC s) 24)
  have hS := SB.new w s
  have hsmall : Hid (∀ w, Calls Try.prog 8 #[.agg (seC s)] w fun e w' => e = .returned (.bool (smB s)) ∧ Below w.heap.size w w') := small_any s hf
  have haw : Hid (∀ w, Calls Try.prog 25 #[] w fun e w' => e = .returned (.bool true) ∧ Below w.heap.size w w') := awake_any
  clear hf
  unfold seV
  go_enter Try.func6, Try.ntmps6
  go_wp2_with fail
  refine (haw.out _).mono ?_
  rintro e w0 ⟨rfl, B0⟩
  have hS0 := hS.below B0 hS.lt
  have D0 := hB.trans (B0.mono hB.size)
  go_wp2_with (refine wpList_load_row rfl 24 _ rfl w.heap.size rfl 24 _ (0, 0) _ hS0.row Try.underlying24 rfl (info24 s) ?_)
  refine (hsmall.out _).mono ?_
  rintro e w1 ⟨rfl, B1⟩
  have hS1 := hS0.below B1 hS0.lt
  have D1 := D0.trans (B1.mono D0.size)
  cases hsm : smB s
  · go_wp2_with fail
    go_ret
    exact ⟨rfl, D1⟩
  · have hch : Hid (∀ w, Calls Try.prog 13 #[.agg (seC s)] w fun e w' => e = .returned (.int .i64 (checkI s)) ∧ Below w.heap.size w w') := check_any s hsm
    have hbg : Hid (∀ w, Calls Try.prog 21 #[.agg (seC s), .int .i64 last] w fun e w' => e = .returned (.tuple #[.int .i64 (beginA s last), .int .i64 (pageI s last 0)]) ∧ Below w.heap.size w w') := begin_any s hsm last
    have hv1 : Hid (∀ w, Calls Try.prog 22 #[.agg (seC s), .int .i64 last, .bool true] w fun e w' => e = .returned (.tuple #[.int .i64 (variantA s last true), .int .i64 (pageI s last 1)]) ∧ Below w.heap.size w w') := variant_any s hsm last true
    have hv2 : Hid (∀ w, Calls Try.prog 22 #[.agg (seC s), .int .i64 last, .bool false] w fun e w' => e = .returned (.tuple #[.int .i64 (variantA s last false), .int .i64 (pageI s last 1)]) ∧ Below w.heap.size w w') := variant_any s hsm last false
    clear hsm hsmall haw
    go_wp2_with (refine wpList_load_want 24 _ rfl (by rfl) w.heap.size rfl 24 _ (0, 0) _ hS1.row Try.underlying24 rfl (info24 s) ?_)
    refine (hch.out _).mono ?_
    rintro e w2 ⟨rfl, B2⟩
    have hS2 := hS1.below B2 hS1.lt
    have D2 := D1.trans (B2.mono D1.size)
    by_cases hc0 : checkI s = 0
    · by_cases hl1 : last < 0
      · rw [hc0]
        clear hc0
        go_wp2_with fail
        go_ret
        exact ⟨rfl, D2⟩
      · by_cases hl2 : 4095 < last
        · rw [hc0]
          clear hc0
          go_wp2_with fail
          go_ret
          exact ⟨rfl, D2⟩
        · have p0 : pageI s last 0 = 0 := page_zero hc0 (by omega) (by omega)
          have p1 : Hid (¬ last = 0 → pageI s last 1 = 0) := fun h => page_zero hc0 (by omega) (by omega)
          have hbv : beginA s last = beginI s last := by unfold beginA; rw [if_pos p0]
          have hst := (may_of hc0).start
          rw [p0, hbv] at hbg
          rw [hc0]
          clear hc0 p0 hbv
          have hbe : beginI s last = if (s.start = 1 ∧ (last + 1) % 2 = 0) ∨ (s.start = 2 ∧ ¬ (last + 1) % 2 = 0) then last + 2 else last + 1 := rfl
          have hn1 : ¬ last + 2 = last + 1 := by omega
          have hn2 : ¬ last + 1 = last + 2 := by omega
          go_wp2_with (refine wpList_load_row rfl 24 _ rfl w.heap.size rfl 24 _ (0, 0) _ hS2.row Try.underlying24 rfl (info24 s) ?_)
          refine (hbg.out _).mono ?_
          rintro e w3 ⟨rfl, B3⟩
          have hS3 := hS2.below B3 hS2.lt
          have D3 := D2.trans (B3.mono D2.size)
          have c8 := hS3.c8
          clear hbg hch
          have hcase : (s.start = 1 ∧ (last + 1) % 2 = 0) ∨ (s.start = 1 ∧ ¬ (last + 1) % 2 = 0) ∨ (s.start = 2 ∧ (last + 1) % 2 = 0) ∨ (s.start = 2 ∧ ¬ (last + 1) % 2 = 0) ∨ (s.start = 0) := by omega
          rcases hcase with ⟨hs, hq⟩ | ⟨hs, hq⟩ | ⟨hs, hq⟩ | ⟨hs, hq⟩ | hs
          · have hN : beginI s last = last + 2 := by rw [hbe, if_pos (.inl ⟨hs, hq⟩)]
            have e1 : (last + 2).tmod 2 = 1 := by rw [Int.tmod_eq_emod_of_nonneg (by omega)]; omega
            have e2 : (last + 2) % 2 = 1 := by omega
            have e3 : ¬ (last + 2).tmod 2 = 0 := by omega
            have e4 : ¬ (last + 2) % 2 = 0 := by omega
            rw [hN]
            clear hN hbe
            by_cases hz : last = 0
            · exfalso; omega
            · clear hq
              have p1' := p1.out hz
              have va1 : variantA s last true = variantI s last true := by unfold variantA; rw [if_pos p1']
              have va2 : variantA s last false = 2 - last.tmod 2 := by unfold variantA; rw [if_pos p1', var_no (by omega)]
              rw [va1, p1'] at hv1
              rw [va2, p1'] at hv2
              clear va1 va2 p1' p1
              have ht : 0 ≤ last.tmod 2 ∧ last.tmod 2 ≤ 1 := by rw [Int.tmod_eq_emod_of_nonneg (by omega)]; omega
              go_wp2_with (refine wpList_load_row rfl 24 _ rfl w.heap.size rfl 24 _ (0, 0) _ hS3.row Try.underlying24 rfl (info24 s) ?_)
              refine (hv1.out _).mono ?_
              rintro e w4 ⟨rfl, B4⟩
              have hS4 := hS3.below B4 hS3.lt
              have D4 := D3.trans (B4.mono D3.size)
              go_wp2_with (refine wpList_load_row rfl 24 _ rfl w.heap.size rfl 24 _ (0, 0) _ hS4.row Try.underlying24 rfl (info24 s) ?_)
              refine (hv2.out _).mono ?_
              rintro e w5 ⟨rfl, B5⟩
              have hS5 := hS4.below B5 hS4.lt
              have D5 := D4.trans (B5.mono D4.size)
              have c11 : w5.cell? ⟨w.heap.size, 11, none⟩ = some (.string s.h0) := hS5.cell rfl
              have c14 : w5.cell? ⟨w.heap.size, 14, none⟩ = some (.string s.f0) := hS5.cell rfl
              have hl0 : empB s.h0 = (ByteArray.toList s.h0).isEmpty := rfl
              have hl1 : empB s.f0 = (ByteArray.toList s.f0).isEmpty := rfl
              clear hv1 hv2 c8
              cases he0 : empB s.h0
              · rw [var_own (.inl he0)]
                rw [hl0] at he0
                clear hl0 hl1
                go_wp2_with fail
                go_ret
                exact ⟨by first | rfl | (simp; done) | (simp; omega), D5⟩
              · cases he1 : empB s.f0
                · rw [var_own (.inr he1)]
                  rw [hl0] at he0
                  rw [hl1] at he1
                  clear hl0 hl1
                  go_wp2_with fail
                  go_ret
                  exact ⟨by first | rfl | (simp; done) | (simp; omega), D5⟩
                · rw [var_plain (by omega) he0 he1]
                  rw [hl0] at he0
                  rw [hl1] at he1
                  clear hl0 hl1
                  have hnz : ¬ 2 - last.tmod 2 = 0 := by omega
                  go_wp2_with fail
                  go_ret
                  exact ⟨by first | rfl | (simp; done) | (simp; omega), D5⟩
          · have hN : beginI s last = last + 1 := by rw [hbe, if_neg (by omega)]
            have e1 : (last + 1).tmod 2 = 1 := by rw [Int.tmod_eq_emod_of_nonneg (by omega)]; omega
            have e2 : (last + 1) % 2 = 1 := by omega
            have e3 : ¬ (last + 1).tmod 2 = 0 := by omega
            have e4 : ¬ (last + 1) % 2 = 0 := by omega
            rw [hN]
            clear hN hbe
            by_cases hz : last = 0
            · subst hz
              clear hq
              go_wp2_with fail
              go_ret
              exact ⟨rfl, D3⟩
            · clear hq
              have p1' := p1.out hz
              have va1 : variantA s last true = variantI s last true := by unfold variantA; rw [if_pos p1']
              have va2 : variantA s last false = 2 - last.tmod 2 := by unfold variantA; rw [if_pos p1', var_no (by omega)]
              rw [va1, p1'] at hv1
              rw [va2, p1'] at hv2
              clear va1 va2 p1' p1
              have ht : 0 ≤ last.tmod 2 ∧ last.tmod 2 ≤ 1 := by rw [Int.tmod_eq_emod_of_nonneg (by omega)]; omega
              go_wp2_with (refine wpList_load_row rfl 24 _ rfl w.heap.size rfl 24 _ (0, 0) _ hS3.row Try.underlying24 rfl (info24 s) ?_)
              refine (hv1.out _).mono ?_
              rintro e w4 ⟨rfl, B4⟩
              have hS4 := hS3.below B4 hS3.lt
              have D4 := D3.trans (B4.mono D3.size)
              go_wp2_with (refine wpList_load_row rfl 24 _ rfl w.heap.size rfl 24 _ (0, 0) _ hS4.row Try.underlying24 rfl (info24 s) ?_)
              refine (hv2.out _).mono ?_
              rintro e w5 ⟨rfl, B5⟩
              have hS5 := hS4.below B5 hS4.lt
              have D5 := D4.trans (B5.mono D4.size)
              have c11 : w5.cell? ⟨w.heap.size, 11, none⟩ = some (.string s.h0) := hS5.cell rfl
              have c14 : w5.cell? ⟨w.heap.size, 14, none⟩ = some (.string s.f0) := hS5.cell rfl
              have hl0 : empB s.h0 = (ByteArray.toList s.h0).isEmpty := rfl
              have hl1 : empB s.f0 = (ByteArray.toList s.f0).isEmpty := rfl
              clear hv1 hv2 c8
              cases he0 : empB s.h0
              · rw [var_own (.inl he0)]
                rw [hl0] at he0
                clear hl0 hl1
                go_wp2_with fail
                go_ret
                exact ⟨by first | rfl | (simp; done) | (simp; omega), D5⟩
              · cases he1 : empB s.f0
                · rw [var_own (.inr he1)]
                  rw [hl0] at he0
                  rw [hl1] at he1
                  clear hl0 hl1
                  go_wp2_with fail
                  go_ret
                  exact ⟨by first | rfl | (simp; done) | (simp; omega), D5⟩
                · rw [var_plain (by omega) he0 he1]
                  rw [hl0] at he0
                  rw [hl1] at he1
                  clear hl0 hl1
                  have hnz : ¬ 2 - last.tmod 2 = 0 := by omega
                  go_wp2_with fail
                  go_ret
                  exact ⟨by first | rfl | (simp; done) | (simp; omega), D5⟩
          · have hN : beginI s last = last + 1 := by rw [hbe, if_neg (by omega)]
            have e1 : (last + 1).tmod 2 = 0 := by rw [Int.tmod_eq_emod_of_nonneg (by omega)]; omega
            have e2 : (last + 1) % 2 = 0 := by omega
            have e3 : ¬ (last + 1).tmod 2 = 1 := by omega
            have e4 : ¬ (last + 1) % 2 = 1 := by omega
            rw [hN]
            clear hN hbe
            by_cases hz : last = 0
            · exfalso; omega
            · clear hq
              have p1' := p1.out hz
              have va1 : variantA s last true = variantI s last true := by unfold variantA; rw [if_pos p1']
              have va2 : variantA s last false = 2 - last.tmod 2 := by unfold variantA; rw [if_pos p1', var_no (by omega)]
              rw [va1, p1'] at hv1
              rw [va2, p1'] at hv2
              clear va1 va2 p1' p1
              have ht : 0 ≤ last.tmod 2 ∧ last.tmod 2 ≤ 1 := by rw [Int.tmod_eq_emod_of_nonneg (by omega)]; omega
              go_wp2_with (refine wpList_load_row rfl 24 _ rfl w.heap.size rfl 24 _ (0, 0) _ hS3.row Try.underlying24 rfl (info24 s) ?_)
              refine (hv1.out _).mono ?_
              rintro e w4 ⟨rfl, B4⟩
              have hS4 := hS3.below B4 hS3.lt
              have D4 := D3.trans (B4.mono D3.size)
              go_wp2_with (refine wpList_load_row rfl 24 _ rfl w.heap.size rfl 24 _ (0, 0) _ hS4.row Try.underlying24 rfl (info24 s) ?_)
              refine (hv2.out _).mono ?_
              rintro e w5 ⟨rfl, B5⟩
              have hS5 := hS4.below B5 hS4.lt
              have D5 := D4.trans (B5.mono D4.size)
              have c11 : w5.cell? ⟨w.heap.size, 11, none⟩ = some (.string s.h0) := hS5.cell rfl
              have c14 : w5.cell? ⟨w.heap.size, 14, none⟩ = some (.string s.f0) := hS5.cell rfl
              have hl0 : empB s.h0 = (ByteArray.toList s.h0).isEmpty := rfl
              have hl1 : empB s.f0 = (ByteArray.toList s.f0).isEmpty := rfl
              clear hv1 hv2 c8
              cases he0 : empB s.h0
              · rw [var_own (.inl he0)]
                rw [hl0] at he0
                clear hl0 hl1
                go_wp2_with fail
                go_ret
                exact ⟨by first | rfl | (simp; done) | (simp; omega), D5⟩
              · cases he1 : empB s.f0
                · rw [var_own (.inr he1)]
                  rw [hl0] at he0
                  rw [hl1] at he1
                  clear hl0 hl1
                  go_wp2_with fail
                  go_ret
                  exact ⟨by first | rfl | (simp; done) | (simp; omega), D5⟩
                · rw [var_plain (by omega) he0 he1]
                  rw [hl0] at he0
                  rw [hl1] at he1
                  clear hl0 hl1
                  have hnz : ¬ 2 - last.tmod 2 = 0 := by omega
                  go_wp2_with fail
                  go_ret
                  exact ⟨by first | rfl | (simp; done) | (simp; omega), D5⟩
          · have hN : beginI s last = last + 2 := by rw [hbe, if_pos (.inr ⟨hs, hq⟩)]
            have e1 : (last + 2).tmod 2 = 0 := by rw [Int.tmod_eq_emod_of_nonneg (by omega)]; omega
            have e2 : (last + 2) % 2 = 0 := by omega
            have e3 : ¬ (last + 2).tmod 2 = 1 := by omega
            have e4 : ¬ (last + 2) % 2 = 1 := by omega
            rw [hN]
            clear hN hbe
            by_cases hz : last = 0
            · subst hz
              clear hq
              go_wp2_with fail
              go_ret
              exact ⟨rfl, D3⟩
            · clear hq
              have p1' := p1.out hz
              have va1 : variantA s last true = variantI s last true := by unfold variantA; rw [if_pos p1']
              have va2 : variantA s last false = 2 - last.tmod 2 := by unfold variantA; rw [if_pos p1', var_no (by omega)]
              rw [va1, p1'] at hv1
              rw [va2, p1'] at hv2
              clear va1 va2 p1' p1
              have ht : 0 ≤ last.tmod 2 ∧ last.tmod 2 ≤ 1 := by rw [Int.tmod_eq_emod_of_nonneg (by omega)]; omega
              go_wp2_with (refine wpList_load_row rfl 24 _ rfl w.heap.size rfl 24 _ (0, 0) _ hS3.row Try.underlying24 rfl (info24 s) ?_)
              refine (hv1.out _).mono ?_
              rintro e w4 ⟨rfl, B4⟩
              have hS4 := hS3.below B4 hS3.lt
              have D4 := D3.trans (B4.mono D3.size)
              go_wp2_with (refine wpList_load_row rfl 24 _ rfl w.heap.size rfl 24 _ (0, 0) _ hS4.row Try.underlying24 rfl (info24 s) ?_)
              refine (hv2.out _).mono ?_
              rintro e w5 ⟨rfl, B5⟩
              have hS5 := hS4.below B5 hS4.lt
              have D5 := D4.trans (B5.mono D4.size)
              have c11 : w5.cell? ⟨w.heap.size, 11, none⟩ = some (.string s.h0) := hS5.cell rfl
              have c14 : w5.cell? ⟨w.heap.size, 14, none⟩ = some (.string s.f0) := hS5.cell rfl
              have hl0 : empB s.h0 = (ByteArray.toList s.h0).isEmpty := rfl
              have hl1 : empB s.f0 = (ByteArray.toList s.f0).isEmpty := rfl
              clear hv1 hv2 c8
              cases he0 : empB s.h0
              · rw [var_own (.inl he0)]
                rw [hl0] at he0
                clear hl0 hl1
                go_wp2_with fail
                go_ret
                exact ⟨by first | rfl | (simp; done) | (simp; omega), D5⟩
              · cases he1 : empB s.f0
                · rw [var_own (.inr he1)]
                  rw [hl0] at he0
                  rw [hl1] at he1
                  clear hl0 hl1
                  go_wp2_with fail
                  go_ret
                  exact ⟨by first | rfl | (simp; done) | (simp; omega), D5⟩
                · rw [var_plain (by omega) he0 he1]
                  rw [hl0] at he0
                  rw [hl1] at he1
                  clear hl0 hl1
                  have hnz : ¬ 2 - last.tmod 2 = 0 := by omega
                  go_wp2_with fail
                  go_ret
                  exact ⟨by first | rfl | (simp; done) | (simp; omega), D5⟩
          · have hN : beginI s last = last + 1 := by rw [hbe, if_neg (by omega)]
            rw [hN]
            clear hN hbe
            by_cases hz : last = 0
            · subst hz

              go_wp2_with fail
              go_ret
              exact ⟨rfl, D3⟩
            · have hskip := hz
              have p1' := p1.out hz
              have va1 : variantA s last true = variantI s last true := by unfold variantA; rw [if_pos p1']
              have va2 : variantA s last false = 2 - last.tmod 2 := by unfold variantA; rw [if_pos p1', var_no (by omega)]
              rw [va1, p1'] at hv1
              rw [va2, p1'] at hv2
              clear va1 va2 p1' p1
              have ht : 0 ≤ last.tmod 2 ∧ last.tmod 2 ≤ 1 := by rw [Int.tmod_eq_emod_of_nonneg (by omega)]; omega
              go_wp2_with (refine wpList_load_row rfl 24 _ rfl w.heap.size rfl 24 _ (0, 0) _ hS3.row Try.underlying24 rfl (info24 s) ?_)
              refine (hv1.out _).mono ?_
              rintro e w4 ⟨rfl, B4⟩
              have hS4 := hS3.below B4 hS3.lt
              have D4 := D3.trans (B4.mono D3.size)
              go_wp2_with (refine wpList_load_row rfl 24 _ rfl w.heap.size rfl 24 _ (0, 0) _ hS4.row Try.underlying24 rfl (info24 s) ?_)
              refine (hv2.out _).mono ?_
              rintro e w5 ⟨rfl, B5⟩
              have hS5 := hS4.below B5 hS4.lt
              have D5 := D4.trans (B5.mono D4.size)
              have c11 : w5.cell? ⟨w.heap.size, 11, none⟩ = some (.string s.h0) := hS5.cell rfl
              have c14 : w5.cell? ⟨w.heap.size, 14, none⟩ = some (.string s.f0) := hS5.cell rfl
              have hl0 : empB s.h0 = (ByteArray.toList s.h0).isEmpty := rfl
              have hl1 : empB s.f0 = (ByteArray.toList s.f0).isEmpty := rfl
              clear hv1 hv2 c8
              cases he0 : empB s.h0
              · rw [var_own (.inl he0)]
                rw [hl0] at he0
                clear hl0 hl1
                go_wp2_with fail
                go_ret
                exact ⟨by first | rfl | (simp; done) | (simp; omega), D5⟩
              · cases he1 : empB s.f0
                · rw [var_own (.inr he1)]
                  rw [hl0] at he0
                  rw [hl1] at he1
                  clear hl0 hl1
                  go_wp2_with fail
                  go_ret
                  exact ⟨by first | rfl | (simp; done) | (simp; omega), D5⟩
                · rw [var_plain (by omega) he0 he1]
                  rw [hl0] at he0
                  rw [hl1] at he1
                  clear hl0 hl1
                  have hnz : ¬ 2 - last.tmod 2 = 0 := by omega
                  go_wp2_with fail
                  go_ret
                  exact ⟨by first | rfl | (simp; done) | (simp; omega), D5⟩
    · generalize checkI s = K1 at *
      go_wp2_with fail
      go_ret
      exact ⟨rfl, D2⟩

set_option maxRecDepth 100000 in
theorem lifted (os : Os) (started : os.Started) (H : Type) (enc : TypeId × Value → H) :
    ReturnsInHanded {} Try.checked os 6 .any (Rows.sectionNextSpec.pre6 enc Try.prog Try.f6 Rows.sectionNextRow.domain false) (Rows.sectionNextSpec.post enc Try.prog Try.f6 false true false false) := by
  refine returnsInHanded_of_change (C := Try.checked) own started (by kernel_rfl) Try.func6
    (ChangeSpec.witness6 (enc := enc) (C := Try.checked) false ⟨#[], #[.agg #[.int .i64 0, .int .i64 0, .int .i64 0, .int .i64 0, .int .i64 0, .int .i64 0, .int .i64 0, .int .i64 0, .int .i64 0, .int .i64 0, .int .i64 0, .string ⟨#[]⟩, .string ⟨#[]⟩, .string ⟨#[]⟩, .string ⟨#[]⟩, .string ⟨#[]⟩, .string ⟨#[]⟩], .int .i64 0], []⟩ 8 (by kernel_rfl) (by kernel_rfl) (by kernel_rfl) (by kernel_rfl)) ?_
  intro W base args ds gs before hval0 hW hcnd _
  have hval : ∀ (j : Nat) t v, Try.f6.params[j]? = some t → args[j]? = some v → Value.okWide Try.prog W .any base t v := hval0
  have hW' := hW
  obtain ⟨p, q, hA0, hV, rfl, hfz, hnd⟩ := hW
  have hA : DataW.TrodAll enc Try.prog W 0 (fun _ => true) true Try.f6.params.toList args.toList ds p := hA0
  rw [Try.params6] at hA hval
  obtain ⟨v0, vs0, d0, ds0, p0, q0, hargs, rfl, rfl, h0, r0⟩ := trodAll_cons hA
  obtain ⟨v1, vs1, d1, ds1, p1, q1, rfl, rfl, rfl, h1, r1⟩ := trodAll_cons r0
  obtain ⟨rfl, rfl, rfl⟩ := trodAll_nil r1
  obtain rfl : args = #[v0, v1] := by cases args; simp_all
  obtain ⟨rfl, rfl⟩ := trodVars_none hV
  have k0 := h0
  have lt0 : ∀ x ∈ p0, x.block < W.heap.size := by obtain ⟨m, hm⟩ := k0; exact DataW.trod_lt m _ _ _ hm
  obtain ⟨s, rfl, hsz⟩ := open_sec (hval 0 24 v0 rfl rfl) h0
  obtain ⟨a1, rfl, rfl, rfl, w1⟩ := open_int Try.underlying3 (hval 1 3 v1 rfl rfl) h1
  clear hA0 hval0
  refine (walk s hsz a1 W).mono fun e W' ⟨he, bel⟩ => ?_
  subst he
  exact ⟨_, rfl, _, _, _, [], _, [], hW', trodAll_mk1 (shut_bool Try.underlying4 _), (trodAll_cons_mk (Below.trod laidOut (by kernel_rfl) (of_decide_eq_true (by kernel_rfl)) k0 bel lt0) (trodAll_cons_mk (shut_int Try.underlying3 w1) trodAll_mk0)), rfl, bel.frame _, fun h => by cases h⟩

theorem over : Rows.sectionNextRow.holds Try.pinned (OpenSpec.ofChange Rows.sectionNextSpec) :=
  OpenClaim.holds_of_wide 6 Try.f6 rfl rfl rfl rfl rfl rfl rfl ⟨rfl, rfl, rfl, rfl, rfl⟩ rfl rfl rfl rfl rfl (by kernel_rfl) Try.func6 (by kernel_rfl)
    (of_decide_eq_true (by kernel_rfl)) (by unfold Func.isWrapper; first | (rw [if_pos (by decide +kernel)]; kernel_rfl) | (rw [if_neg (by decide +kernel)]; exact ⟨rfl, rfl⟩))
    (fun os started H enc _ => lifted os started H enc)

end sectionNext

theorem sectionNext_holds : Rows.SectionNextSaid := sectionNext.over

end Go.Proofs.Ytglgapmjhmeonaa
