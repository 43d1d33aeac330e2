/-
  What is proved here: SectionTells answers true at every input, with no condition: which sections may be, and where the columns, the header and the footer of any page are, is told as the document says; what is handed in stays.
-/
import Derived.Test.YtglgapmjhmeonaaRegD
namespace Go.Proofs.Ytglgapmjhmeonaa
open Go.RowKit Go.Shelf

/-- A new rectangle in memory. -/
theorem rect_new (w : World) (q : Rc) : Below w.heap.size w ((w.alloc (.cells #[.int .i64 0, .int .i64 0, .int .i64 0, .int .i64 0] 31)).setRow w.heap.size (rcC q)) ∧ ((w.alloc (.cells #[.int .i64 0, .int .i64 0, .int .i64 0, .int .i64 0] 31)).setRow w.heap.size (rcC q)).heap[w.heap.size]? = some (.cells (rcC q) 31 (0, 0)) :=
  ⟨below_setRow ((Below.refl _ w).alloc (Nat.le_refl _) _) (Nat.le_refl _) _, setRow_same _ (heap_new w _) _⟩

namespace sectionTells
open Go.ChangeShapes Go.WideShapes Go.ChangeAt Go.RowKit

set_option maxRecDepth 100000 in
set_option maxHeartbeats 4000000 in
theorem walk (s : Sec) (hf : ∀ t ∈ texts s, t.size ≤ 9223372036854775807) (page : Int) (w : World) :
    Calls Try.prog 3 #[seV s, .int .i64 page] w fun e w' => e = .returned (.bool true) ∧ Below w.heap.size w w' := by
  have hB := (Below.refl w.heap.size w).alloc (Nat.le_refl _) (Obj.cells (seC s) 24)
  have hS := SB.new w s
  have hsmall : Hid (∀ w, Calls Try.prog 8 #[.agg (seC s)] w fun e w' => e = .returned (.bool (smB s)) ∧ Below w.heap.size w w') := small_any s hf
  clear hf
  unfold seV
  go_enter Try.func3, Try.ntmps3
  go_wp2_with (refine wpList_load_row rfl 24 _ rfl w.heap.size rfl 24 _ (0, 0) _ hS.row Try.underlying24 rfl (info24 s) ?_)
  refine (hsmall.out _).mono ?_
  rintro e w1 ⟨rfl, B1⟩
  have hS1 := hS.below B1 hS.lt
  have D1 := hB.trans (B1.mono hB.size)
  cases hsm : smB s
  · go_wp2_with fail
    go_ret
    exact ⟨rfl, D1⟩
  · have hhd : Hid (∀ w, Calls Try.prog 10 #[.agg (seC s), .int .i64 page] w fun e w' => e = .returned (.tuple #[.agg (rcC (headA s page)), .int .i64 (pageI s page 1)]) ∧ Below w.heap.size w w') := head_any s hsm page
    have hft : Hid (∀ w, Calls Try.prog 11 #[.agg (seC s), .int .i64 page] w fun e w' => e = .returned (.tuple #[.agg (rcC (footA s page)), .int .i64 (pageI s page 1)]) ∧ Below w.heap.size w w') := foot_any s hsm page
    have hpg : Hid (∀ w, Calls Try.prog 12 #[.agg (seC s), .int .i64 page, .int .i64 1] w fun e w' => e = .returned (.int .i64 (pageI s page 1)) ∧ Below w.heap.size w w') := rpage_any s hsm page 1
    have hc1 : Hid (∀ w, Calls Try.prog 13 #[.agg (seC s)] w fun e w' => e = .returned (.int .i64 (checkI s)) ∧ Below w.heap.size w w') := check_any s hsm
    have hc2 : Hid (∀ w, Calls Try.prog 14 #[.agg (seC s)] w fun e w' => e = .returned (.int .i64 (checkI s)) ∧ Below w.heap.size w w') := rcheck_any s hsm
    by_cases h0 : pageI s page 1 = 0
    · obtain ⟨hm, hp1, hp2⟩ := may_page h0
      have hco : Hid (∀ w, Calls Try.prog 9 #[.agg (seC s), .int .i64 page] w fun e w' => ∃ g, e = .returned (.tuple #[.slice (some ⟨g, 0, none⟩) (colsL s page).length (colsL s page).length, .int .i64 0]) ∧ w.heap.size ≤ g ∧ w'.heap[g]? = some (.cells (rcRow (colsL s page)) 31 (0, 0)) ∧ Below w.heap.size w w') := columns_yes s hsm page h0
      have e1 : headA s page = headR s page := by unfold headA; rw [if_pos h0]
      have e2 : footA s page = footR s page := by unfold footA; rw [if_pos h0]
      have hn : Hid (NumOk s) := hm.toNumOk
      have hcl : (colsL s page).length ≤ 8 := by have := hm.cols; rw [colsL_len]; omega
      have hrc : Hid (∀ w, Calls Try.prog 18 #[.agg (seC s), .int .i64 page] w fun e w' => ∃ v, e = .returned v ∧ RcsAt w' v (colsL s page) ∧ Below w.heap.size w w') := rcolumns_any s hm.toNumOk page
      rw [e1, h0] at hhd
      rw [e2, h0] at hft
      rw [h0] at hpg
      clear e1 e2 hm h0 hsm hsmall
      obtain ⟨n, hlen⟩ : ∃ n, (colsL s page).length = n := ⟨_, rfl⟩
      have hlen' : Hid ((colsL s page).length = n) := hlen
      rw [hlen] at hco hcl
      clear hlen
      go_wp2_with (refine wpList_load_row rfl 24 _ rfl w.heap.size rfl 24 _ (0, 0) _ hS1.row Try.underlying24 rfl (info24 s) ?_)
      refine (hco.out _).mono ?_
      rintro e w2 ⟨g, rfl, hg, hG, B2⟩
      have hS2 := hS1.below B2 hS1.lt
      have D2 := D1.trans (B2.mono D1.size)
      have hgB : w.heap.size < g := Nat.lt_of_lt_of_le hS1.lt hg
      have hG' : Hid (w2.heap[g]? = some (.cells (rcRow (colsL s page)) 31 (0, 0))) := hG
      clear hG hg
      go_wp2_with (refine wpList_load_row rfl 24 _ rfl w.heap.size rfl 24 _ (0, 0) _ hS2.row Try.underlying24 rfl (info24 s) ?_)
      refine (hhd.out _).mono ?_
      rintro e w3 ⟨rfl, B3⟩
      have hS3 := hS2.below B3 hS2.lt
      have D3 := D2.trans (B3.mono D2.size)
      have hG3 : Hid (w3.heap[g]? = some (.cells (rcRow (colsL s page)) 31 (0, 0))) := (B3.block g (Array.getElem?_eq_some_iff.1 hG'.out).1).trans hG'.out
      obtain ⟨R3, X3⟩ := rect_new w3 (headR s page)
      go_wp2_with (first
        | (refine wpList_store_row rfl 31 _ _ rfl w3.heap.size (rcC (headR s page)) rfl rfl 31 _ (heap_new w3 _) (by kernel_rfl) (by rfl) (rcC_one _) ?_
           obtain ⟨y3, hy3⟩ : ∃ y, (w3.alloc (.cells #[.int .i64 0, .int .i64 0, .int .i64 0, .int .i64 0] 31)).setRow w3.heap.size (rcC (headR s page)) = y := ⟨_, rfl⟩
           rw [hy3] at R3 X3 ⊢
           clear hy3
           have hS4 := hS3.below R3 hS3.lt
           have D4 := D3.trans (R3.mono D3.size)
           have hG4 : Hid (y3.heap[g]? = some (.cells (rcRow (colsL s page)) 31 (0, 0))) := (R3.block g (Array.getElem?_eq_some_iff.1 hG3.out).1).trans hG3.out
           have X3' : Hid (y3.heap[w3.heap.size]? = some (.cells (rcC (headR s page)) 31 (0, 0))) := X3
           clear X3 R3 hG3 hS3)
        | refine wpList_load_row rfl 24 _ rfl w.heap.size rfl 24 _ (0, 0) _ hS4.row Try.underlying24 rfl (info24 s) ?_)
      refine (hft.out _).mono ?_
      rintro e w5 ⟨rfl, B5⟩
      have hS5 := hS4.below B5 hS4.lt
      have D5 := D4.trans (B5.mono D4.size)
      obtain ⟨R5, X5⟩ := rect_new w5 (footR s page)
      go_wp2_with (first
        | (refine wpList_store_row rfl 31 _ _ rfl w5.heap.size (rcC (footR s page)) rfl rfl 31 _ (heap_new w5 _) (by kernel_rfl) (by rfl) (rcC_one _) ?_
           obtain ⟨y5, hy5⟩ : ∃ y, (w5.alloc (.cells #[.int .i64 0, .int .i64 0, .int .i64 0, .int .i64 0] 31)).setRow w5.heap.size (rcC (footR s page)) = y := ⟨_, rfl⟩
           rw [hy5] at R5 X5 ⊢
           clear hy5
           have hS6 := hS5.below R5 hS5.lt
           have D6 := D5.trans (R5.mono D5.size)
           have BR5 : Below y3.heap.size y3 y5 := B5.trans (R5.mono B5.size)
           have hG6 : Hid (y5.heap[g]? = some (.cells (rcRow (colsL s page)) 31 (0, 0))) := (BR5.block g (Array.getElem?_eq_some_iff.1 hG4.out).1).trans hG4.out
           have X6 : Hid (y5.heap[w3.heap.size]? = some (.cells (rcC (headR s page)) 31 (0, 0))) := (BR5.block _ (Array.getElem?_eq_some_iff.1 X3'.out).1).trans X3'.out
           have X5' : Hid (y5.heap[w5.heap.size]? = some (.cells (rcC (footR s page)) 31 (0, 0))) := X5
           clear X5 R5 hG4 X3' hS5 hS4 BR5)
        | refine wpList_load_row rfl 24 _ rfl w.heap.size rfl 24 _ (0, 0) _ hS6.row Try.underlying24 rfl (info24 s) ?_)
      refine (hpg.out _).mono ?_
      rintro e w7 ⟨rfl, B7⟩
      have hS7 := hS6.below B7 hS6.lt
      have D7 := D6.trans (B7.mono D6.size)
      go_wp2_with fail
      refine tells_region7 _ (fun _ _ _ _ _ h => h) _ _ w.heap.size s 0 (checkI s) hc1.out hc2.out _ hS7 ?_
      intro w8 B8
      have hS8 := hS7.below B8 hS7.lt
      have D8 := D7.trans (B8.mono D7.size)
      have BB : Below y5.heap.size y5 w8 := B7.trans (B8.mono B7.size)
      have hG8 : Hid (w8.heap[g]? = some (.cells (rcRow (colsL s page)) 31 (0, 0))) := (BB.block g (Array.getElem?_eq_some_iff.1 hG6.out).1).trans hG6.out
      have X8 : Hid (w8.heap[w3.heap.size]? = some (.cells (rcC (headR s page)) 31 (0, 0))) := (BB.block _ (Array.getElem?_eq_some_iff.1 X6.out).1).trans X6.out
      have X9 : Hid (w8.heap[w5.heap.size]? = some (.cells (rcC (footR s page)) 31 (0, 0))) := (BB.block _ (Array.getElem?_eq_some_iff.1 X5'.out).1).trans X5'.out
      clear hG6 X6 X5' BB hS7 hS6
      have hra : Hid (RcsAt w8 (.slice (some ⟨g, 0, none⟩) n n) (colsL s page)) := by
        have := row_rcs (cap := n) hG8.out (by have := hlen'.out; omega)
        rw [hlen'.out] at this
        exact this
      unfold fr3
      go_wp2_with fail
      refine tells_region11 _ (fun _ _ _ _ _ h => h) _ _ w.heap.size w3.heap.size w5.heap.size _ s page hn.out _ hS8 hra.out X8.out X9.out ?_
      intro v1 w9 B9
      have hS9 : Hid (SB w9 w.heap.size s) := hS8.below B9 hS8.lt
      have D9 := D8.trans (B9.mono D8.size)
      have hG9 : Hid (w9.heap[g]? = some (.cells (rcRow (colsL s page)) 31 (0, 0))) := (B9.block g (Array.getElem?_eq_some_iff.1 hG8.out).1).trans hG8.out
      clear hG8 X8 X9 hra hS8
      unfold fr3
      go_wp2_with fail
      go_loopw [12] (fun i wr => ∃ (k : Nat) (l : List Rc), k ≤ n ∧ i = .int .i64 k ∧ Below w.heap.size w wr ∧ Hid (SB wr w.heap.size s) ∧ Hid (l.length = n ∧ wr.heap[g]? = some (.cells (rcRow l) 31 (0, 0)))) (fun i _ => n - (intOf i).toNat)
      case atStart => exact ⟨0, colsL s page, by omega, rfl, D9, hS9, hlen'.out, hG9.out⟩
      case round =>
        obtain ⟨k, l, hk, rfl, hb, hSr, hGl⟩ := hrel
        obtain ⟨hll, hGr⟩ := hGl.out
        by_cases hlt : k < n
        · have hltI : (k : Int) < n := by omega
          have hkl : k < l.length := by omega
          obtain ⟨⟨z0, z1, z2, z3⟩, f0, f1, f2, f3⟩ := cells4 hGr hkl
          have hG4 : Hid ((l.set k ⟨-1, 0, 0, 0⟩).length = n ∧ _) := ⟨by rw [List.length_set]; exact hll, store4 hGr hkl ⟨-1, 0, 0, 0⟩⟩
          have hb4 := below4 (k := k) hb (g := g) (by omega) (.int .i64 (-1)) (.int .i64 0) (.int .i64 0) (.int .i64 0)
          have hS4 : Hid (SB ((((wr.setCell ⟨g, k * 4, none⟩ (.int .i64 (-1))).setCell ⟨g, k * 4 + 1, none⟩ (.int .i64 0)).setCell ⟨g, k * 4 + 2, none⟩ (.int .i64 0)).setCell ⟨g, k * 4 + 3, none⟩ (.int .i64 0)) w.heap.size s) :=
            hSr.out.below (below4 (k := k) (Below.refl (w.heap.size + 1) wr) (g := g) (by omega) _ _ _ _) (by omega)
          clear hGl hGr hll
          go_wp2_with fail
          go_roundw
          case rel => exact ⟨k + 1, _, by omega, by simp, hb4, hS4, hG4⟩
          case measure => simp [intOf]; omega
        · have hge : ¬ (k : Int) < n := by omega
          have hrow := hSr.out.row
          clear hGl hGr hll
          go_wp2_with (refine wpList_load_row rfl 24 _ rfl w.heap.size rfl 24 _ (0, 0) _ hrow Try.underlying24 rfl (info24 s) ?_)
          refine (hco.out _).mono ?_
          rintro e x1 ⟨g1, rfl, hg1, hH1, E1⟩
          have hT1 := hSr.out.below E1 hSr.out.lt
          have F1 := hb.trans (E1.mono hb.size)
          have hH1' : Hid (RcsAt x1 (.slice (some ⟨g1, 0, none⟩) n n) (colsL s page)) := by
            have := row_rcs (cap := n) hH1 (by have := hlen'.out; omega)
            rw [hlen'.out] at this
            exact this
          clear hH1 hrow
          go_wp2_with (refine wpList_load_row rfl 24 _ rfl w.heap.size rfl 24 _ (0, 0) _ hT1.row Try.underlying24 rfl (info24 s) ?_)
          refine (hrc.out _).mono ?_
          rintro e x2 ⟨v2, rfl, hr2, E2⟩
          have F2 := F1.trans (E2.mono F1.size)
          have hrs : Hid (Calls Try.prog 17 #[.slice (some ⟨g1, 0, none⟩) n n, v2] x2 fun e w' => e = .returned (.bool true) ∧ Below x2.heap.size x2 w') := rects_same _ _ _ _ (hH1'.out.below E2 (Nat.le_refl _)) hr2
          clear hr2 hH1'
          go_wp2_with fail
          refine hrs.out.mono ?_
          rintro e x3 ⟨rfl, E3⟩
          go_wp2_with fail
          go_ret
          exact ⟨rfl, F2.trans (E3.mono F2.size)⟩
    · have hco : Hid (∀ w, Calls Try.prog 9 #[.agg (seC s), .int .i64 page] w fun e w' => e = .returned (.tuple #[.slice none 0 0, .int .i64 (pageI s page 1)]) ∧ Below w.heap.size w w') := columns_no s hsm page h0
      have e1 : headA s page = zeroR := by unfold headA; rw [if_neg h0]
      have e2 : footA s page = zeroR := by unfold footA; rw [if_neg h0]
      rw [e1] at hhd
      rw [e2] at hft
      obtain ⟨E, hE⟩ : ∃ E, pageI s page 1 = E := ⟨_, rfl⟩
      rw [hE] at hco hhd hft hpg h0
      clear hE e1 e2 hsm hsmall
      go_wp2_with (refine wpList_load_row rfl 24 _ rfl w.heap.size rfl 24 _ (0, 0) _ hS1.row Try.underlying24 rfl (info24 s) ?_)
      refine (hco.out _).mono ?_
      rintro e w2 ⟨rfl, B2⟩
      have hS2 := hS1.below B2 hS1.lt
      have D2 := D1.trans (B2.mono D1.size)
      go_wp2_with (refine wpList_load_row rfl 24 _ rfl w.heap.size rfl 24 _ (0, 0) _ hS2.row Try.underlying24 rfl (info24 s) ?_)
      refine (hhd.out _).mono ?_
      rintro e w3 ⟨rfl, B3⟩
      have hS3 := hS2.below B3 hS2.lt
      have D3 := D2.trans (B3.mono D2.size)
      obtain ⟨R3, X3⟩ := rect_new w3 zeroR
      go_wp2_with (first
        | (refine wpList_store_row rfl 31 _ _ rfl w3.heap.size (rcC zeroR) rfl rfl 31 _ (heap_new w3 _) (by kernel_rfl) (by rfl) (rcC_one _) ?_
           obtain ⟨y3, hy3⟩ : ∃ y, (w3.alloc (.cells #[.int .i64 0, .int .i64 0, .int .i64 0, .int .i64 0] 31)).setRow w3.heap.size (rcC zeroR) = y := ⟨_, rfl⟩
           rw [hy3] at R3 X3 ⊢
           clear hy3
           have hS4 := hS3.below R3 hS3.lt
           have D4 := D3.trans (R3.mono D3.size)
           have X3' : Hid (y3.heap[w3.heap.size]? = some (.cells (rcC zeroR) 31 (0, 0))) := X3
           clear X3 R3 hS3)
        | refine wpList_load_row rfl 24 _ rfl w.heap.size rfl 24 _ (0, 0) _ hS4.row Try.underlying24 rfl (info24 s) ?_)
      refine (hft.out _).mono ?_
      rintro e w5 ⟨rfl, B5⟩
      have hS5 := hS4.below B5 hS4.lt
      have D5 := D4.trans (B5.mono D4.size)
      obtain ⟨R5, X5⟩ := rect_new w5 zeroR
      go_wp2_with (first
        | (refine wpList_store_row rfl 31 _ _ rfl w5.heap.size (rcC zeroR) rfl rfl 31 _ (heap_new w5 _) (by kernel_rfl) (by rfl) (rcC_one _) ?_
           obtain ⟨y5, hy5⟩ : ∃ y, (w5.alloc (.cells #[.int .i64 0, .int .i64 0, .int .i64 0, .int .i64 0] 31)).setRow w5.heap.size (rcC zeroR) = y := ⟨_, rfl⟩
           rw [hy5] at R5 X5 ⊢
           clear hy5
           have hS6 := hS5.below R5 hS5.lt
           have D6 := D5.trans (R5.mono D5.size)
           have BR5 : Below y3.heap.size y3 y5 := B5.trans (R5.mono B5.size)
           have X6 : Hid (y5.heap[w3.heap.size]? = some (.cells (rcC zeroR) 31 (0, 0))) := (BR5.block _ (Array.getElem?_eq_some_iff.1 X3'.out).1).trans X3'.out
           have X5' : Hid (y5.heap[w5.heap.size]? = some (.cells (rcC zeroR) 31 (0, 0))) := X5
           clear X5 R5 X3' hS5 hS4 BR5)
        | refine wpList_load_row rfl 24 _ rfl w.heap.size rfl 24 _ (0, 0) _ hS6.row Try.underlying24 rfl (info24 s) ?_)
      refine (hpg.out _).mono ?_
      rintro e w7 ⟨rfl, B7⟩
      have hS7 := hS6.below B7 hS6.lt
      have D7 := D6.trans (B7.mono D6.size)
      go_wp2_with fail
      refine tells_region7 _ (fun _ _ _ _ _ h => h) _ _ w.heap.size s E (checkI s) hc1.out hc2.out _ hS7 ?_
      intro w8 B8
      have D8 := D7.trans (B8.mono D7.size)
      have BB : Below y5.heap.size y5 w8 := B7.trans (B8.mono B7.size)
      have X8 : w8.heap[w3.heap.size]? = some (.cells #[.int .i64 0, .int .i64 0, .int .i64 0, .int .i64 0] 31 (0, 0)) := (BB.block _ (Array.getElem?_eq_some_iff.1 X6.out).1).trans X6.out
      have X9 : w8.heap[w5.heap.size]? = some (.cells #[.int .i64 0, .int .i64 0, .int .i64 0, .int .i64 0] 31 (0, 0)) := (BB.block _ (Array.getElem?_eq_some_iff.1 X5'.out).1).trans X5'.out
      clear X6 X5' BB hS7 hS6
      unfold fr3
      go_wp2_with (first
        | refine wpList_load_want 31 _ rfl (by rfl) w3.heap.size rfl 31 _ (0, 0) _ X8 Try.underlying31 rfl (by kernel_rfl) ?_
        | refine wpList_load_want 31 _ rfl (by rfl) w5.heap.size rfl 31 _ (0, 0) _ X9 Try.underlying31 rfl (by kernel_rfl) ?_)
      go_ret
      exact ⟨rfl, D8⟩

set_option maxRecDepth 100000 in
theorem lifted (os : Os) (started : os.Started) (H : Type) (enc : TypeId × Value → H) :
    ReturnsInHanded {} Try.checked os 3 .any (Rows.sectionTellsSpec.pre6 enc Try.prog Try.f3 Rows.sectionTellsRow.domain false) (Rows.sectionTellsSpec.post enc Try.prog Try.f3 false true false false) := by
  refine returnsInHanded_of_change (C := Try.checked) own started (by kernel_rfl) Try.func3
    (ChangeSpec.witness6 (enc := enc) (C := Try.checked) false ⟨#[], #[.agg #[.int .i64 0, .int .i64 0, .int .i64 0, .int .i64 0, .int .i64 0, .int .i64 0, .int .i64 0, .int .i64 0, .int .i64 0, .int .i64 0, .int .i64 0, .string ⟨#[]⟩, .string ⟨#[]⟩, .string ⟨#[]⟩, .string ⟨#[]⟩, .string ⟨#[]⟩, .string ⟨#[]⟩], .int .i64 0], []⟩ 8 (by kernel_rfl) (by kernel_rfl) (by kernel_rfl) (by kernel_rfl)) ?_
  intro W base args ds gs before hval0 hW hcnd _
  have hval : ∀ (j : Nat) t v, Try.f3.params[j]? = some t → args[j]? = some v → Value.okWide Try.prog W .any base t v := hval0
  have hW' := hW
  obtain ⟨p, q, hA0, hV, rfl, hfz, hnd⟩ := hW
  have hA : DataW.TrodAll enc Try.prog W 0 (fun _ => true) true Try.f3.params.toList args.toList ds p := hA0
  rw [Try.params3] at hA hval
  obtain ⟨v0, vs0, d0, ds0, p0, q0, hargs, rfl, rfl, h0, r0⟩ := trodAll_cons hA
  obtain ⟨v1, vs1, d1, ds1, p1, q1, rfl, rfl, rfl, h1, r1⟩ := trodAll_cons r0
  obtain ⟨rfl, rfl, rfl⟩ := trodAll_nil r1
  obtain rfl : args = #[v0, v1] := by cases args; simp_all
  obtain ⟨rfl, rfl⟩ := trodVars_none hV
  have k0 := h0
  have lt0 : ∀ x ∈ p0, x.block < W.heap.size := by obtain ⟨m, hm⟩ := k0; exact DataW.trod_lt m _ _ _ hm
  obtain ⟨s, rfl, hsz⟩ := open_sec (hval 0 24 v0 rfl rfl) h0
  obtain ⟨a1, rfl, rfl, rfl, w1⟩ := open_int Try.underlying3 (hval 1 3 v1 rfl rfl) h1
  clear hA0 hval0
  refine (walk s hsz a1 W).mono fun e W' ⟨he, bel⟩ => ?_
  subst he
  exact ⟨_, rfl, _, _, _, [], _, [], hW', trodAll_mk1 (shut_bool Try.underlying4 _), (trodAll_cons_mk (Below.trod laidOut (by kernel_rfl) (of_decide_eq_true (by kernel_rfl)) k0 bel lt0) (trodAll_cons_mk (shut_int Try.underlying3 w1) trodAll_mk0)), rfl, bel.frame _, fun h => by cases h⟩

theorem over : Rows.sectionTellsRow.holds Try.pinned (OpenSpec.ofChange Rows.sectionTellsSpec) :=
  OpenClaim.holds_of_wide 3 Try.f3 rfl rfl rfl rfl rfl rfl rfl ⟨rfl, rfl, rfl, rfl, rfl⟩ rfl rfl rfl rfl rfl (by kernel_rfl) Try.func3 (by kernel_rfl)
    (of_decide_eq_true (by kernel_rfl)) (by unfold Func.isWrapper; first | (rw [if_pos (by decide +kernel)]; kernel_rfl) | (rw [if_neg (by decide +kernel)]; exact ⟨rfl, rfl⟩))
    (fun os started H enc _ => lifted os started H enc)

end sectionTells

theorem sectionTells_holds : Rows.SectionTellsSaid := sectionTells.over

end Go.Proofs.Ytglgapmjhmeonaa
