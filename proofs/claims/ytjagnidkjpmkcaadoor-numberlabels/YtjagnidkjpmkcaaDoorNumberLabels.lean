/-
  What is proved here: for every list of paragraphs and every list's number NumberLabels answers true: Labels and Counts tell the document's labels and counts, or just their error. Its conditions: the listed tables lie as the program's own text lays them.
-/
import Derived.Test.YtjagnidkjpmkcaaDoorRefE
import Derived.Test.YtjagnidkjpmkcaaDoorWalkB
import Derived.Laws.StructEq
namespace Go.Proofs.YtjagnidkjpmkcaaDoor.numberLabels
open Go.ChangeShapes Go.WideShapes Go.ChangeAt Go.RowKit

theorem en_cells {W : World} {a : Option Addr} {ls : List En} {cap n k : Nat} (h : EnAt W (.slice a n cap) ls) (hn : n = ls.length) (hk : k < n) : ∃ b o, a = some ⟨b, o, none⟩ ∧ W.cell? ⟨b, o + k * 2, none⟩ = some (.int .i64 (ls[k]'(hn ▸ hk)).1) ∧ W.cell? ⟨b, o + k * 2 + 1, none⟩ = some (.int .i64 (ls[k]'(hn ▸ hk)).2) := by
  obtain ⟨a', cap', e, h2⟩ := h.ex
  cases e
  rcases h2 with h2 | ⟨b, o, rfl, _, hc⟩
  · rw [h2] at hk; simp at hk
  · exact ⟨b, o, rfl, hc k hk⟩

set_option maxHeartbeats 1000000 in
set_option maxRecDepth 100000 in
theorem walk {w : World} (a : Option Addr) (cap : Nat) (ls : List En) (hlen : ls.length ≤ 9223372036854775807) (_hcap : ls.length ≤ cap) (hS0 : ls.length ≤ 140737488355328 → EnAt w (.slice a ls.length cap) ls) (li : Int) (ht : Tab w) :
    Calls Tryd.prog 4 #[.slice a ls.length cap, .int .i64 li] w fun e w' => e = .returned (.bool true) ∧ Below w.heap.size w w' := by
  by_cases hA : 200 < ls.length ∧ ls.length < 3990
  · obtain ⟨h1, h2⟩ := hA
    have h1i : (200 : Int) < ls.length := by omega
    have h2i : (ls.length : Int) < 3990 := by omega
    go_enter Tryd.func4, Tryd.ntmps4
    go_wp2_with fail
    go_ret
    exact ⟨rfl, Below.refl _ _⟩
  by_cases hB : 4010 < ls.length
  · have h1i : (200 : Int) < ls.length := by omega
    have h2i : ¬ ((ls.length : Int) < 3990) := by omega
    have h3i : (4010 : Int) < ls.length := by omega
    go_enter Tryd.func4, Tryd.ntmps4
    go_wp2_with fail
    go_ret
    exact ⟨rfl, Below.refl _ _⟩
  have hS := hS0 (by omega)
  obtain ⟨n, hn⟩ : ∃ n, n = ls.length := ⟨_, rfl⟩
  rw [← hn] at hA hB ⊢
  have hn1 : n ≤ 4010 := by omega
  have HN : Hid (n = ls.length) := hn
  have HS : Hid (EnAt w (.slice a n cap) ls) := by rw [hn]; exact hS
  have hsrc : Srcs (w.alloc (.cells #[] 37)) 2 (.slice a n cap) n (enC ls) := by
    have := en_srcs (HS.out.below ((Below.refl _ w).alloc (Nat.le_refl _) (.cells #[] 37)))
    rw [← hn] at this
    exact this
  obtain ⟨i0, hi0, hz0, hz1, hz2⟩ := info_parts info37
  have R0 := ownsRow_lit w 37 2 w.heap.size (Nat.le_refl _)
  have k1 : Hid (0 + n ≤ maxLen) := by show _ ≤ _; unfold maxLen; omega
  have k2 : Hid ((0 + n) * 16 ≤ 140737488355328) := by show _ ≤ _; omega
  have k3 : Hid (w.heap.size ≤ (w.alloc (.cells #[] 37)).heap.size) := by show _ ≤ _; simp
  have hd : (decide ((200 : Int) < n) && decide ((n : Int) < 3990)) = false := by
    rw [Bool.and_eq_false_iff]
    by_cases h : 200 < n
    · exact .inr (decide_eq_false (by omega))
    · exact .inl (decide_eq_false (by omega))
  have hd2 : ¬ ((4010 : Int) < n) := by omega
  have hd3 : decide ((4010 : Int) < n) = false := decide_eq_false hd2
  have hA2 : Hid (200 < n → 3990 ≤ n) := fun h => by omega
  clear hn hS hS0 hlen hA hB
  by_cases hr : refE ls = 0
  · obtain ⟨hn3, hall⟩ := refE_yes hr
    rw [← HN.out] at hn3
    have HALL : Hid (ls.all okE = true) := hall
    have hL := fun v W (h : EnAt W v ls) (h' : Tab W) => Labels_yes v ls W h hr h'
    have hK := fun W (h : EnAt W (.slice a n cap) ls) => check_any (.slice a n cap) ls W h
    rw [hr] at hK
    clear hall
    by_cases hli : li < 1 ∨ 8 < li
    · have hC := fun v W (h : EnAt W v ls) => Counts_list v ls li W h hr hli
      clear hr
      by_cases hl1 : li < 1
      · clear hli
        by_cases h2 : 200 < n
        · have h2i : (200 : Int) < n := by omega
          have h3i : ¬ ((n : Int) < 3990) := by have := hA2.out; omega
          go_enter Tryd.func4, Tryd.ntmps4
          go_wp2_with (at_builtin; refine wpList_append_any _ rfl _ _ 28 rfl w.heap.size 37 i0 _ 2 16 Tryd.underlying28 hi0 hz0 hz1 hz2 rfl (by decide) _ 0 [] rfl R0 n (enC ls) _ rfl hsrc k1.out k2.out k3.out ?_)
          intro v5 w1 r5 g5
          have B1 := below_grown ((Below.refl _ w).alloc (Nat.le_refl _) (.cells #[] 37)) R0 (Nat.le_refl _) (Nat.le_refl _) g5
          have E5 : EnAt w1 v5 ls := en_of_row (by rw [← HN.out]; simpa using r5) (by rw [← HN.out]; omega)
          obtain ⟨va, vc, rfl⟩ : ∃ a c, v5 = .slice a n c := by
            obtain ⟨a', c', e, _⟩ := E5.ex
            exact ⟨a', c', by rw [e, ← HN.out]⟩
          clear r5 g5 hsrc R0 k1 k2 k3
          go_wp2_with fail
          refine (hL _ _ E5 (ht.below B1)).mono ?_
          rintro e w2 ⟨v6, rfl, r6, q2⟩
          have B2 := B1.trans (q2.mono B1.size)
          have T6 : TxAt w2 v6 (labs ls) := TxAt.of_row (by rw [labs_length]; exact r6) (by rw [labs_length, ← HN.out]; omega)
          clear r6
          go_wp2_with fail
          refine (hC _ _ (E5.below q2)).mono ?_
          rintro e w3 ⟨rfl, q3⟩
          have B3 := B2.trans (q3.mono B2.size)
          have C3 := q2.trans (q3.mono q2.size)
          have HT6 : Hid (TxAt w3 v6 (labs ls)) := T6.below q3
          clear q2 q3 B1 B2 T6
          go_wp2_with fail
          refine (hK _ (HS.out.below B3)).mono ?_
          rintro e w3' ⟨rfl, rfl⟩
          clear hL hC hK
          have HE5 : Hid (EnAt w3' (.slice va n vc) ls) := E5.below C3
          have HS3 : Hid (EnAt w3' (.slice a n cap) ls) := HS.out.below B3
          clear E5 HS
          go_wp2_with fail
          go_loopw [11] (fun i wr => ∃ k : Nat, k ≤ n ∧ i = .int .i64 k ∧ Below w3'.heap.size w3' wr) (fun i _ => n - (RowKit.intOf i).toNat)
          case atStart => exact ⟨0, by omega, rfl, Below.refl _ _⟩
          case round =>
            obtain ⟨k, hk, rfl, hb⟩ := hrel
            by_cases hlt : k < n
            · obtain ⟨b5, o5, rfl, c0, c1⟩ := en_cells (HE5.out.below hb) HN.out hlt
              obtain ⟨bl, ol, rfl, d0, d1⟩ := en_cells (HS3.out.below hb) HN.out hlt
              have hkn : (k : Int) < n := by omega
              generalize (ls[k]'(HN.out ▸ hlt)).1 = lx at *
              generalize (ls[k]'(HN.out ▸ hlt)).2 = ly at *
              go_wp2_with fail
              go_quiet (fail)
              go_wp2_with fail
              go_roundw
              case rel => exact ⟨k + 1, by omega, by simp, ⟨hb.os, hb.tape, hb.output, hb.size, hb.block⟩⟩
              case measure => simp [RowKit.intOf]; omega
            · obtain rfl : k = n := by omega
              have BR : Below w.heap.size w wr := B3.trans (hb.mono B3.size)
              have hRL := refLabels_any a k cap ls HN.out hn3 HALL.out wr (HS3.out.below hb)
              go_wp2_with fail
              refine hRL.mono ?_
              rintro e w4 ⟨v78, rfl, T78, q4⟩
              have B4 := BR.trans (q4.mono BR.size)
              have hSm := sameTexts_yes _ _ _ w4 ((HT6.out.below hb).below q4) T78
              clear hRL
              go_wp2_with fail
              refine hSm.mono ?_
              rintro e w5 ⟨rfl, q5⟩
              have B5 := B4.trans (q5.mono B4.size)
              clear hSm
              go_wp2_with fail
              go_ret
              exact ⟨rfl, B5⟩
        · have h2i : ¬ ((200 : Int) < n) := by omega
          go_enter Tryd.func4, Tryd.ntmps4
          go_wp2_with (at_builtin; refine wpList_append_any _ rfl _ _ 28 rfl w.heap.size 37 i0 _ 2 16 Tryd.underlying28 hi0 hz0 hz1 hz2 rfl (by decide) _ 0 [] rfl R0 n (enC ls) _ rfl hsrc k1.out k2.out k3.out ?_)
          intro v5 w1 r5 g5
          have B1 := below_grown ((Below.refl _ w).alloc (Nat.le_refl _) (.cells #[] 37)) R0 (Nat.le_refl _) (Nat.le_refl _) g5
          have E5 : EnAt w1 v5 ls := en_of_row (by rw [← HN.out]; simpa using r5) (by rw [← HN.out]; omega)
          obtain ⟨va, vc, rfl⟩ : ∃ a c, v5 = .slice a n c := by
            obtain ⟨a', c', e, _⟩ := E5.ex
            exact ⟨a', c', by rw [e, ← HN.out]⟩
          clear r5 g5 hsrc R0 k1 k2 k3
          go_wp2_with fail
          refine (hL _ _ E5 (ht.below B1)).mono ?_
          rintro e w2 ⟨v6, rfl, r6, q2⟩
          have B2 := B1.trans (q2.mono B1.size)
          have T6 : TxAt w2 v6 (labs ls) := TxAt.of_row (by rw [labs_length]; exact r6) (by rw [labs_length, ← HN.out]; omega)
          clear r6
          go_wp2_with fail
          refine (hC _ _ (E5.below q2)).mono ?_
          rintro e w3 ⟨rfl, q3⟩
          have B3 := B2.trans (q3.mono B2.size)
          have C3 := q2.trans (q3.mono q2.size)
          have HT6 : Hid (TxAt w3 v6 (labs ls)) := T6.below q3
          clear q2 q3 B1 B2 T6
          go_wp2_with fail
          refine (hK _ (HS.out.below B3)).mono ?_
          rintro e w3' ⟨rfl, rfl⟩
          clear hL hC hK
          have HE5 : Hid (EnAt w3' (.slice va n vc) ls) := E5.below C3
          have HS3 : Hid (EnAt w3' (.slice a n cap) ls) := HS.out.below B3
          clear E5 HS
          go_wp2_with fail
          go_loopw [11] (fun i wr => ∃ k : Nat, k ≤ n ∧ i = .int .i64 k ∧ Below w3'.heap.size w3' wr) (fun i _ => n - (RowKit.intOf i).toNat)
          case atStart => exact ⟨0, by omega, rfl, Below.refl _ _⟩
          case round =>
            obtain ⟨k, hk, rfl, hb⟩ := hrel
            by_cases hlt : k < n
            · obtain ⟨b5, o5, rfl, c0, c1⟩ := en_cells (HE5.out.below hb) HN.out hlt
              obtain ⟨bl, ol, rfl, d0, d1⟩ := en_cells (HS3.out.below hb) HN.out hlt
              have hkn : (k : Int) < n := by omega
              generalize (ls[k]'(HN.out ▸ hlt)).1 = lx at *
              generalize (ls[k]'(HN.out ▸ hlt)).2 = ly at *
              go_wp2_with fail
              go_quiet (fail)
              go_wp2_with fail
              go_roundw
              case rel => exact ⟨k + 1, by omega, by simp, ⟨hb.os, hb.tape, hb.output, hb.size, hb.block⟩⟩
              case measure => simp [RowKit.intOf]; omega
            · obtain rfl : k = n := by omega
              have BR : Below w.heap.size w wr := B3.trans (hb.mono B3.size)
              have hRL := refLabels_any a k cap ls HN.out hn3 HALL.out wr (HS3.out.below hb)
              go_wp2_with fail
              refine hRL.mono ?_
              rintro e w4 ⟨v78, rfl, T78, q4⟩
              have B4 := BR.trans (q4.mono BR.size)
              have hSm := sameTexts_yes _ _ _ w4 ((HT6.out.below hb).below q4) T78
              clear hRL
              go_wp2_with fail
              refine hSm.mono ?_
              rintro e w5 ⟨rfl, q5⟩
              have B5 := B4.trans (q5.mono B4.size)
              clear hSm
              go_wp2_with fail
              go_ret
              exact ⟨rfl, B5⟩
      · have hl8 : 8 < li := by omega
        clear hli
        by_cases h2 : 200 < n
        · have h2i : (200 : Int) < n := by omega
          have h3i : ¬ ((n : Int) < 3990) := by have := hA2.out; omega
          go_enter Tryd.func4, Tryd.ntmps4
          go_wp2_with (at_builtin; refine wpList_append_any _ rfl _ _ 28 rfl w.heap.size 37 i0 _ 2 16 Tryd.underlying28 hi0 hz0 hz1 hz2 rfl (by decide) _ 0 [] rfl R0 n (enC ls) _ rfl hsrc k1.out k2.out k3.out ?_)
          intro v5 w1 r5 g5
          have B1 := below_grown ((Below.refl _ w).alloc (Nat.le_refl _) (.cells #[] 37)) R0 (Nat.le_refl _) (Nat.le_refl _) g5
          have E5 : EnAt w1 v5 ls := en_of_row (by rw [← HN.out]; simpa using r5) (by rw [← HN.out]; omega)
          obtain ⟨va, vc, rfl⟩ : ∃ a c, v5 = .slice a n c := by
            obtain ⟨a', c', e, _⟩ := E5.ex
            exact ⟨a', c', by rw [e, ← HN.out]⟩
          clear r5 g5 hsrc R0 k1 k2 k3
          go_wp2_with fail
          refine (hL _ _ E5 (ht.below B1)).mono ?_
          rintro e w2 ⟨v6, rfl, r6, q2⟩
          have B2 := B1.trans (q2.mono B1.size)
          have T6 : TxAt w2 v6 (labs ls) := TxAt.of_row (by rw [labs_length]; exact r6) (by rw [labs_length, ← HN.out]; omega)
          clear r6
          go_wp2_with fail
          refine (hC _ _ (E5.below q2)).mono ?_
          rintro e w3 ⟨rfl, q3⟩
          have B3 := B2.trans (q3.mono B2.size)
          have C3 := q2.trans (q3.mono q2.size)
          have HT6 : Hid (TxAt w3 v6 (labs ls)) := T6.below q3
          clear q2 q3 B1 B2 T6
          go_wp2_with fail
          refine (hK _ (HS.out.below B3)).mono ?_
          rintro e w3' ⟨rfl, rfl⟩
          clear hL hC hK
          have HE5 : Hid (EnAt w3' (.slice va n vc) ls) := E5.below C3
          have HS3 : Hid (EnAt w3' (.slice a n cap) ls) := HS.out.below B3
          clear E5 HS
          go_wp2_with fail
          go_loopw [11] (fun i wr => ∃ k : Nat, k ≤ n ∧ i = .int .i64 k ∧ Below w3'.heap.size w3' wr) (fun i _ => n - (RowKit.intOf i).toNat)
          case atStart => exact ⟨0, by omega, rfl, Below.refl _ _⟩
          case round =>
            obtain ⟨k, hk, rfl, hb⟩ := hrel
            by_cases hlt : k < n
            · obtain ⟨b5, o5, rfl, c0, c1⟩ := en_cells (HE5.out.below hb) HN.out hlt
              obtain ⟨bl, ol, rfl, d0, d1⟩ := en_cells (HS3.out.below hb) HN.out hlt
              have hkn : (k : Int) < n := by omega
              generalize (ls[k]'(HN.out ▸ hlt)).1 = lx at *
              generalize (ls[k]'(HN.out ▸ hlt)).2 = ly at *
              go_wp2_with fail
              go_quiet (fail)
              go_wp2_with fail
              go_roundw
              case rel => exact ⟨k + 1, by omega, by simp, ⟨hb.os, hb.tape, hb.output, hb.size, hb.block⟩⟩
              case measure => simp [RowKit.intOf]; omega
            · obtain rfl : k = n := by omega
              have BR : Below w.heap.size w wr := B3.trans (hb.mono B3.size)
              have hRL := refLabels_any a k cap ls HN.out hn3 HALL.out wr (HS3.out.below hb)
              go_wp2_with fail
              refine hRL.mono ?_
              rintro e w4 ⟨v78, rfl, T78, q4⟩
              have B4 := BR.trans (q4.mono BR.size)
              have hSm := sameTexts_yes _ _ _ w4 ((HT6.out.below hb).below q4) T78
              clear hRL
              go_wp2_with fail
              refine hSm.mono ?_
              rintro e w5 ⟨rfl, q5⟩
              have B5 := B4.trans (q5.mono B4.size)
              clear hSm
              go_wp2_with fail
              go_ret
              exact ⟨rfl, B5⟩
        · have h2i : ¬ ((200 : Int) < n) := by omega
          go_enter Tryd.func4, Tryd.ntmps4
          go_wp2_with (at_builtin; refine wpList_append_any _ rfl _ _ 28 rfl w.heap.size 37 i0 _ 2 16 Tryd.underlying28 hi0 hz0 hz1 hz2 rfl (by decide) _ 0 [] rfl R0 n (enC ls) _ rfl hsrc k1.out k2.out k3.out ?_)
          intro v5 w1 r5 g5
          have B1 := below_grown ((Below.refl _ w).alloc (Nat.le_refl _) (.cells #[] 37)) R0 (Nat.le_refl _) (Nat.le_refl _) g5
          have E5 : EnAt w1 v5 ls := en_of_row (by rw [← HN.out]; simpa using r5) (by rw [← HN.out]; omega)
          obtain ⟨va, vc, rfl⟩ : ∃ a c, v5 = .slice a n c := by
            obtain ⟨a', c', e, _⟩ := E5.ex
            exact ⟨a', c', by rw [e, ← HN.out]⟩
          clear r5 g5 hsrc R0 k1 k2 k3
          go_wp2_with fail
          refine (hL _ _ E5 (ht.below B1)).mono ?_
          rintro e w2 ⟨v6, rfl, r6, q2⟩
          have B2 := B1.trans (q2.mono B1.size)
          have T6 : TxAt w2 v6 (labs ls) := TxAt.of_row (by rw [labs_length]; exact r6) (by rw [labs_length, ← HN.out]; omega)
          clear r6
          go_wp2_with fail
          refine (hC _ _ (E5.below q2)).mono ?_
          rintro e w3 ⟨rfl, q3⟩
          have B3 := B2.trans (q3.mono B2.size)
          have C3 := q2.trans (q3.mono q2.size)
          have HT6 : Hid (TxAt w3 v6 (labs ls)) := T6.below q3
          clear q2 q3 B1 B2 T6
          go_wp2_with fail
          refine (hK _ (HS.out.below B3)).mono ?_
          rintro e w3' ⟨rfl, rfl⟩
          clear hL hC hK
          have HE5 : Hid (EnAt w3' (.slice va n vc) ls) := E5.below C3
          have HS3 : Hid (EnAt w3' (.slice a n cap) ls) := HS.out.below B3
          clear E5 HS
          go_wp2_with fail
          go_loopw [11] (fun i wr => ∃ k : Nat, k ≤ n ∧ i = .int .i64 k ∧ Below w3'.heap.size w3' wr) (fun i _ => n - (RowKit.intOf i).toNat)
          case atStart => exact ⟨0, by omega, rfl, Below.refl _ _⟩
          case round =>
            obtain ⟨k, hk, rfl, hb⟩ := hrel
            by_cases hlt : k < n
            · obtain ⟨b5, o5, rfl, c0, c1⟩ := en_cells (HE5.out.below hb) HN.out hlt
              obtain ⟨bl, ol, rfl, d0, d1⟩ := en_cells (HS3.out.below hb) HN.out hlt
              have hkn : (k : Int) < n := by omega
              generalize (ls[k]'(HN.out ▸ hlt)).1 = lx at *
              generalize (ls[k]'(HN.out ▸ hlt)).2 = ly at *
              go_wp2_with fail
              go_quiet (fail)
              go_wp2_with fail
              go_roundw
              case rel => exact ⟨k + 1, by omega, by simp, ⟨hb.os, hb.tape, hb.output, hb.size, hb.block⟩⟩
              case measure => simp [RowKit.intOf]; omega
            · obtain rfl : k = n := by omega
              have BR : Below w.heap.size w wr := B3.trans (hb.mono B3.size)
              have hRL := refLabels_any a k cap ls HN.out hn3 HALL.out wr (HS3.out.below hb)
              go_wp2_with fail
              refine hRL.mono ?_
              rintro e w4 ⟨v78, rfl, T78, q4⟩
              have B4 := BR.trans (q4.mono BR.size)
              have hSm := sameTexts_yes _ _ _ w4 ((HT6.out.below hb).below q4) T78
              clear hRL
              go_wp2_with fail
              refine hSm.mono ?_
              rintro e w5 ⟨rfl, q5⟩
              have B5 := B4.trans (q5.mono B4.size)
              clear hSm
              go_wp2_with fail
              go_ret
              exact ⟨rfl, B5⟩
    · obtain ⟨q, rfl⟩ : ∃ q : Nat, li = (q : Int) + 1 := ⟨(li - 1).toNat, by omega⟩
      have hq8 : q < 8 := by omega
      have hC := fun v W (h : EnAt W v ls) => Counts_yes v ls q hq8 W h hr
      have hl1 : ¬ ((q : Int) + 1 < 1) := by omega
      have hl8 : ¬ (8 < (q : Int) + 1) := by omega
      clear hli hr
      by_cases h2 : 200 < n
      · have h2i : (200 : Int) < n := by omega
        have h3i : ¬ ((n : Int) < 3990) := by have := hA2.out; omega
        go_enter Tryd.func4, Tryd.ntmps4
        go_wp2_with (at_builtin; refine wpList_append_any _ rfl _ _ 28 rfl w.heap.size 37 i0 _ 2 16 Tryd.underlying28 hi0 hz0 hz1 hz2 rfl (by decide) _ 0 [] rfl R0 n (enC ls) _ rfl hsrc k1.out k2.out k3.out ?_)
        intro v5 w1 r5 g5
        have B1 := below_grown ((Below.refl _ w).alloc (Nat.le_refl _) (.cells #[] 37)) R0 (Nat.le_refl _) (Nat.le_refl _) g5
        have E5 : EnAt w1 v5 ls := en_of_row (by rw [← HN.out]; simpa using r5) (by rw [← HN.out]; omega)
        obtain ⟨va, vc, rfl⟩ : ∃ a c, v5 = .slice a n c := by
          obtain ⟨a', c', e, _⟩ := E5.ex
          exact ⟨a', c', by rw [e, ← HN.out]⟩
        clear r5 g5 hsrc R0 k1 k2 k3
        go_wp2_with fail
        refine (hL _ _ E5 (ht.below B1)).mono ?_
        rintro e w2 ⟨v6, rfl, r6, q2⟩
        have B2 := B1.trans (q2.mono B1.size)
        have T6 : TxAt w2 v6 (labs ls) := TxAt.of_row (by rw [labs_length]; exact r6) (by rw [labs_length, ← HN.out]; omega)
        clear r6
        go_wp2_with fail
        refine (hC _ _ (E5.below q2)).mono ?_
        rintro e w3 ⟨v8, rfl, r8, q3⟩
        have B3 := B2.trans (q3.mono B2.size)
        have C3 := q2.trans (q3.mono q2.size)
        have HT6 : Hid (TxAt w3 v6 (labs ls)) := T6.below q3
        have HI8 : Hid (InAt w3 v8 (four ls q)) := InAt.of_row r8 (by simp [four])
        clear q2 q3 B1 B2 T6 r8
        go_wp2_with fail
        refine (hK _ (HS.out.below B3)).mono ?_
        rintro e w3' ⟨rfl, rfl⟩
        clear hL hC hK
        have HE5 : Hid (EnAt w3' (.slice va n vc) ls) := E5.below C3
        have HS3 : Hid (EnAt w3' (.slice a n cap) ls) := HS.out.below B3
        clear E5 HS
        go_wp2_with fail
        go_loopw [11] (fun i wr => ∃ k : Nat, k ≤ n ∧ i = .int .i64 k ∧ Below w3'.heap.size w3' wr) (fun i _ => n - (RowKit.intOf i).toNat)
        case atStart => exact ⟨0, by omega, rfl, Below.refl _ _⟩
        case round =>
          obtain ⟨k, hk, rfl, hb⟩ := hrel
          by_cases hlt : k < n
          · obtain ⟨b5, o5, rfl, c0, c1⟩ := en_cells (HE5.out.below hb) HN.out hlt
            obtain ⟨bl, ol, rfl, d0, d1⟩ := en_cells (HS3.out.below hb) HN.out hlt
            have hkn : (k : Int) < n := by omega
            generalize (ls[k]'(HN.out ▸ hlt)).1 = lx at *
            generalize (ls[k]'(HN.out ▸ hlt)).2 = ly at *
            go_wp2_with fail
            go_quiet (fail)
            go_wp2_with fail
            go_roundw
            case rel => exact ⟨k + 1, by omega, by simp, ⟨hb.os, hb.tape, hb.output, hb.size, hb.block⟩⟩
            case measure => simp [RowKit.intOf]; omega
          · obtain rfl : k = n := by omega
            have BR : Below w.heap.size w wr := B3.trans (hb.mono B3.size)
            have hRL := refLabels_any a k cap ls HN.out hn3 HALL.out wr (HS3.out.below hb)
            go_wp2_with fail
            refine hRL.mono ?_
            rintro e w4 ⟨v78, rfl, T78, q4⟩
            have B4 := BR.trans (q4.mono BR.size)
            have hSm := sameTexts_yes _ _ _ w4 ((HT6.out.below hb).below q4) T78
            clear hRL
            go_wp2_with fail
            refine hSm.mono ?_
            rintro e w5 ⟨rfl, q5⟩
            have B5 := B4.trans (q5.mono B4.size)
            clear hSm
            have C5 := hb.trans ((q4.trans (q5.mono q4.size)).mono hb.size)
            have hRC := refCounts_any a k cap ls HN.out (by omega) HALL.out q w5 (HS3.out.below C5)
            go_wp2_with fail
            refine hRC.mono ?_
            rintro e w6 ⟨v101, rfl, I101, q6⟩
            have B6 := B5.trans (q6.mono B5.size)
            have hSi := sameInts_yes _ _ _ w6 ((HI8.out.below C5).below q6) I101
            clear hRC
            go_wp2_with fail
            refine hSi.mono ?_
            rintro e w7 ⟨rfl, q7⟩
            have B7 := B6.trans (q7.mono B6.size)
            clear hSi
            go_wp2_with fail
            go_ret
            exact ⟨rfl, B7⟩
      · have h2i : ¬ ((200 : Int) < n) := by omega
        go_enter Tryd.func4, Tryd.ntmps4
        go_wp2_with (at_builtin; refine wpList_append_any _ rfl _ _ 28 rfl w.heap.size 37 i0 _ 2 16 Tryd.underlying28 hi0 hz0 hz1 hz2 rfl (by decide) _ 0 [] rfl R0 n (enC ls) _ rfl hsrc k1.out k2.out k3.out ?_)
        intro v5 w1 r5 g5
        have B1 := below_grown ((Below.refl _ w).alloc (Nat.le_refl _) (.cells #[] 37)) R0 (Nat.le_refl _) (Nat.le_refl _) g5
        have E5 : EnAt w1 v5 ls := en_of_row (by rw [← HN.out]; simpa using r5) (by rw [← HN.out]; omega)
        obtain ⟨va, vc, rfl⟩ : ∃ a c, v5 = .slice a n c := by
          obtain ⟨a', c', e, _⟩ := E5.ex
          exact ⟨a', c', by rw [e, ← HN.out]⟩
        clear r5 g5 hsrc R0 k1 k2 k3
        go_wp2_with fail
        refine (hL _ _ E5 (ht.below B1)).mono ?_
        rintro e w2 ⟨v6, rfl, r6, q2⟩
        have B2 := B1.trans (q2.mono B1.size)
        have T6 : TxAt w2 v6 (labs ls) := TxAt.of_row (by rw [labs_length]; exact r6) (by rw [labs_length, ← HN.out]; omega)
        clear r6
        go_wp2_with fail
        refine (hC _ _ (E5.below q2)).mono ?_
        rintro e w3 ⟨v8, rfl, r8, q3⟩
        have B3 := B2.trans (q3.mono B2.size)
        have C3 := q2.trans (q3.mono q2.size)
        have HT6 : Hid (TxAt w3 v6 (labs ls)) := T6.below q3
        have HI8 : Hid (InAt w3 v8 (four ls q)) := InAt.of_row r8 (by simp [four])
        clear q2 q3 B1 B2 T6 r8
        go_wp2_with fail
        refine (hK _ (HS.out.below B3)).mono ?_
        rintro e w3' ⟨rfl, rfl⟩
        clear hL hC hK
        have HE5 : Hid (EnAt w3' (.slice va n vc) ls) := E5.below C3
        have HS3 : Hid (EnAt w3' (.slice a n cap) ls) := HS.out.below B3
        clear E5 HS
        go_wp2_with fail
        go_loopw [11] (fun i wr => ∃ k : Nat, k ≤ n ∧ i = .int .i64 k ∧ Below w3'.heap.size w3' wr) (fun i _ => n - (RowKit.intOf i).toNat)
        case atStart => exact ⟨0, by omega, rfl, Below.refl _ _⟩
        case round =>
          obtain ⟨k, hk, rfl, hb⟩ := hrel
          by_cases hlt : k < n
          · obtain ⟨b5, o5, rfl, c0, c1⟩ := en_cells (HE5.out.below hb) HN.out hlt
            obtain ⟨bl, ol, rfl, d0, d1⟩ := en_cells (HS3.out.below hb) HN.out hlt
            have hkn : (k : Int) < n := by omega
            generalize (ls[k]'(HN.out ▸ hlt)).1 = lx at *
            generalize (ls[k]'(HN.out ▸ hlt)).2 = ly at *
            go_wp2_with fail
            go_quiet (fail)
            go_wp2_with fail
            go_roundw
            case rel => exact ⟨k + 1, by omega, by simp, ⟨hb.os, hb.tape, hb.output, hb.size, hb.block⟩⟩
            case measure => simp [RowKit.intOf]; omega
          · obtain rfl : k = n := by omega
            have BR : Below w.heap.size w wr := B3.trans (hb.mono B3.size)
            have hRL := refLabels_any a k cap ls HN.out hn3 HALL.out wr (HS3.out.below hb)
            go_wp2_with fail
            refine hRL.mono ?_
            rintro e w4 ⟨v78, rfl, T78, q4⟩
            have B4 := BR.trans (q4.mono BR.size)
            have hSm := sameTexts_yes _ _ _ w4 ((HT6.out.below hb).below q4) T78
            clear hRL
            go_wp2_with fail
            refine hSm.mono ?_
            rintro e w5 ⟨rfl, q5⟩
            have B5 := B4.trans (q5.mono B4.size)
            clear hSm
            have C5 := hb.trans ((q4.trans (q5.mono q4.size)).mono hb.size)
            have hRC := refCounts_any a k cap ls HN.out (by omega) HALL.out q w5 (HS3.out.below C5)
            go_wp2_with fail
            refine hRC.mono ?_
            rintro e w6 ⟨v101, rfl, I101, q6⟩
            have B6 := B5.trans (q6.mono B5.size)
            have hSi := sameInts_yes _ _ _ w6 ((HI8.out.below C5).below q6) I101
            clear hRC
            go_wp2_with fail
            refine hSi.mono ?_
            rintro e w7 ⟨rfl, q7⟩
            have B7 := B6.trans (q7.mono B6.size)
            clear hSi
            go_wp2_with fail
            go_ret
            exact ⟨rfl, B7⟩
  · have hL := fun v W (h : EnAt W v ls) => Labels_no v ls W h hr
    have hC := fun v W (h : EnAt W v ls) => Counts_no v ls li W h hr
    have hK := fun W (h : EnAt W (.slice a n cap) ls) => check_any (.slice a n cap) ls W h
    have hr0 : ¬ (0 = refE ls) := fun e => hr e.symm
    generalize refE ls = rr at *
    by_cases h2 : 200 < n
    · have h2i : (200 : Int) < n := by omega
      have h3i : ¬ ((n : Int) < 3990) := by have := hA2.out; omega
      go_enter Tryd.func4, Tryd.ntmps4
      go_wp2_with (at_builtin; refine wpList_append_any _ rfl _ _ 28 rfl w.heap.size 37 i0 _ 2 16 Tryd.underlying28 hi0 hz0 hz1 hz2 rfl (by decide) _ 0 [] rfl R0 n (enC ls) _ rfl hsrc k1.out k2.out k3.out ?_)
      intro v5 w1 r5 g5
      have B1 := below_grown ((Below.refl _ w).alloc (Nat.le_refl _) (.cells #[] 37)) R0 (Nat.le_refl _) (Nat.le_refl _) g5
      have E5 : EnAt w1 v5 ls := en_of_row (by rw [← HN.out]; simpa using r5) (by rw [← HN.out]; omega)
      obtain ⟨va, vc, rfl⟩ : ∃ a c, v5 = .slice a n c := by
        obtain ⟨a', c', e, _⟩ := E5.ex
        exact ⟨a', c', by rw [e, ← HN.out]⟩
      clear r5 g5 hsrc R0 k1 k2 k3
      go_wp2_with fail
      refine (hL _ _ E5).mono ?_
      rintro e w2 ⟨rfl, q2⟩
      have B2 := B1.trans (q2.mono B1.size)
      go_wp2_with fail
      refine (hC _ _ (E5.below q2)).mono ?_
      rintro e w3 ⟨rfl, q3⟩
      have B3 := B2.trans (q3.mono B2.size)
      have C3 := q2.trans (q3.mono q2.size)
      clear q2 q3 B1 B2
      go_wp2_with fail
      refine (hK _ (HS.out.below B3)).mono ?_
      rintro e w3' ⟨rfl, rfl⟩
      clear hL hC hK
      have HE5 : Hid (EnAt w3' (.slice va n vc) ls) := E5.below C3
      have HS3 : Hid (EnAt w3' (.slice a n cap) ls) := HS.out.below B3
      clear E5 HS
      go_wp2_with fail
      go_loopw [11] (fun i wr => ∃ k : Nat, k ≤ n ∧ i = .int .i64 k ∧ Below w3'.heap.size w3' wr) (fun i _ => n - (RowKit.intOf i).toNat)
      case atStart => exact ⟨0, by omega, rfl, Below.refl _ _⟩
      case round =>
        obtain ⟨k, hk, rfl, hb⟩ := hrel
        by_cases hlt : k < n
        · obtain ⟨b5, o5, rfl, c0, c1⟩ := en_cells (HE5.out.below hb) HN.out hlt
          obtain ⟨bl, ol, rfl, d0, d1⟩ := en_cells (HS3.out.below hb) HN.out hlt
          have hkn : (k : Int) < n := by omega
          generalize (ls[k]'(HN.out ▸ hlt)).1 = lx at *
          generalize (ls[k]'(HN.out ▸ hlt)).2 = ly at *
          go_wp2_with fail
          go_quiet (fail)
          go_wp2_with fail
          go_roundw
          case rel => exact ⟨k + 1, by omega, by simp, ⟨hb.os, hb.tape, hb.output, hb.size, hb.block⟩⟩
          case measure => simp [RowKit.intOf]; omega
        · obtain rfl : k = n := by omega
          have BR : Below w.heap.size w wr := B3.trans (hb.mono B3.size)
          go_wp2_with fail
          go_ret
          exact ⟨rfl, BR⟩
    · have h2i : ¬ ((200 : Int) < n) := by omega
      go_enter Tryd.func4, Tryd.ntmps4
      go_wp2_with (at_builtin; refine wpList_append_any _ rfl _ _ 28 rfl w.heap.size 37 i0 _ 2 16 Tryd.underlying28 hi0 hz0 hz1 hz2 rfl (by decide) _ 0 [] rfl R0 n (enC ls) _ rfl hsrc k1.out k2.out k3.out ?_)
      intro v5 w1 r5 g5
      have B1 := below_grown ((Below.refl _ w).alloc (Nat.le_refl _) (.cells #[] 37)) R0 (Nat.le_refl _) (Nat.le_refl _) g5
      have E5 : EnAt w1 v5 ls := en_of_row (by rw [← HN.out]; simpa using r5) (by rw [← HN.out]; omega)
      obtain ⟨va, vc, rfl⟩ : ∃ a c, v5 = .slice a n c := by
        obtain ⟨a', c', e, _⟩ := E5.ex
        exact ⟨a', c', by rw [e, ← HN.out]⟩
      clear r5 g5 hsrc R0 k1 k2 k3
      go_wp2_with fail
      refine (hL _ _ E5).mono ?_
      rintro e w2 ⟨rfl, q2⟩
      have B2 := B1.trans (q2.mono B1.size)
      go_wp2_with fail
      refine (hC _ _ (E5.below q2)).mono ?_
      rintro e w3 ⟨rfl, q3⟩
      have B3 := B2.trans (q3.mono B2.size)
      have C3 := q2.trans (q3.mono q2.size)
      clear q2 q3 B1 B2
      go_wp2_with fail
      refine (hK _ (HS.out.below B3)).mono ?_
      rintro e w3' ⟨rfl, rfl⟩
      clear hL hC hK
      have HE5 : Hid (EnAt w3' (.slice va n vc) ls) := E5.below C3
      have HS3 : Hid (EnAt w3' (.slice a n cap) ls) := HS.out.below B3
      clear E5 HS
      go_wp2_with fail
      go_loopw [11] (fun i wr => ∃ k : Nat, k ≤ n ∧ i = .int .i64 k ∧ Below w3'.heap.size w3' wr) (fun i _ => n - (RowKit.intOf i).toNat)
      case atStart => exact ⟨0, by omega, rfl, Below.refl _ _⟩
      case round =>
        obtain ⟨k, hk, rfl, hb⟩ := hrel
        by_cases hlt : k < n
        · obtain ⟨b5, o5, rfl, c0, c1⟩ := en_cells (HE5.out.below hb) HN.out hlt
          obtain ⟨bl, ol, rfl, d0, d1⟩ := en_cells (HS3.out.below hb) HN.out hlt
          have hkn : (k : Int) < n := by omega
          generalize (ls[k]'(HN.out ▸ hlt)).1 = lx at *
          generalize (ls[k]'(HN.out ▸ hlt)).2 = ly at *
          go_wp2_with fail
          go_quiet (fail)
          go_wp2_with fail
          go_roundw
          case rel => exact ⟨k + 1, by omega, by simp, ⟨hb.os, hb.tape, hb.output, hb.size, hb.block⟩⟩
          case measure => simp [RowKit.intOf]; omega
        · obtain rfl : k = n := by omega
          have BR : Below w.heap.size w wr := B3.trans (hb.mono B3.size)
          go_wp2_with fail
          go_ret
          exact ⟨rfl, BR⟩

set_option maxRecDepth 100000 in
theorem lifted (os : Os) (started : os.Started) (H : Type) (enc : TypeId × Value → H) :
    ReturnsInHanded {} Tryd.checked os 4 .any (fun w args => (Rows.numberLabelsSpec.pre enc Tryd.prog Tryd.f4 Rows.numberLabelsRow.domain false w args ∧ laidMetH Tryd.prog laidL w) ∧ sizedMet enc Tryd.prog Tryd.f4 (OpenSpec.ofChange Rows.numberLabelsSpec) false w args)
      (Rows.numberLabelsSpec.post enc Tryd.prog Tryd.f4 false true false false) := by
  refine returnsInHanded_of_change_and (C := Tryd.checked) (X := fun w _ => laidMetH Tryd.prog laidL w) (fun _ _ _ hh h => h.of_heap hh) own started (by kernel_rfl) Tryd.func4
    (ChangeSpec.witness_shaped (enc := enc) (C := Tryd.checked) (os := os) (X := fun w _ => laidMetH Tryd.prog laidL w) false (World.laidAll Tryd.prog os laidL) #[.slice none 0 0, .int .i64 0] 8 (World.laidAll_os _ _ _)
      (World.shaped_of_ZipB (by kernel_rfl) (by kernel_rfl)) (by kernel_rfl) (by kernel_rfl) (by kernel_rfl)
      (by rw [MakeChecks.laidMetH_plain _ _ _ (by kernel_rfl)]; exact laidMet_laidAll _ (by kernel_rfl) (by kernel_rfl))) ?_
  intro W base args ds gs before hval0 hW hcnd _ hL _
  have hval : ∀ (j : Nat) t v, Tryd.f4.params[j]? = some t → args[j]? = some v → Value.okWide Tryd.prog W .any base t v := hval0
  have hW' := hW
  obtain ⟨p, q, hA0, hV, rfl, hfz, hnd⟩ := hW
  have hA : DataW.TrodAll enc Tryd.prog W 0 (fun _ => true) true Tryd.f4.params.toList args.toList ds p := hA0
  rw [Tryd.params4] at hA hval
  obtain ⟨v0, vs0, d0, ds0, p0, q0, hargs, rfl, rfl, h0, r0⟩ := trodAll_cons hA
  obtain ⟨v1, vs1, d1, ds1, p1, q1, rfl, rfl, rfl, h1, r1⟩ := trodAll_cons r0
  obtain ⟨rfl, rfl, rfl⟩ := trodAll_nil r1
  obtain rfl : args = #[v0, v1] := by cases args; simp_all
  obtain ⟨rfl, rfl⟩ := trodVars_none hV
  obtain ⟨x0, len0, cap0, rfl⟩ := okWide_slice Tryd.underlying28 (hval 0 28 v0 rfl rfl)
  have k0 := h0
  have lt0 : ∀ x ∈ p0, x.block < W.heap.size := by obtain ⟨m, hm⟩ := k0; exact DataW.trod_lt m _ _ _ hm
  obtain ⟨ls0, rfl, hl0, hc0, hS0⟩ := entries_in h0
  obtain ⟨a1, rfl, rfl, rfl, w1⟩ := open_int Tryd.underlying3 (hval 1 3 v1 rfl rfl) h1
  clear hA0 hval0
  refine (walk x0 cap0 ls0 hl0 hc0 hS0 a1 (tab_of hL)).mono fun e W' ⟨he, bel⟩ => ?_
  subst he
  exact ⟨_, rfl, _, _, _, [], _, [], hW', trodAll_mk1 (shut_bool Tryd.underlying4 _), (trodAll_cons_mk (Below.trod laidOut (by kernel_rfl) (of_decide_eq_true (by kernel_rfl)) k0 bel lt0) (trodAll_cons_mk (shut_int Tryd.underlying3 w1) trodAll_mk0)), rfl, bel.frame _, fun h => by cases h⟩

theorem over : Rows.NumberLabelsSaid :=
  OpenClaim.holds_of_wide 4 Tryd.f4 rfl rfl rfl rfl rfl rfl rfl ⟨rfl, rfl, rfl, rfl, rfl⟩ rfl rfl rfl rfl rfl (by kernel_rfl) Tryd.func4 (by kernel_rfl)
    (of_decide_eq_true (by kernel_rfl)) (by unfold Func.isWrapper; first | (rw [if_pos (by decide +kernel)]; kernel_rfl) | (rw [if_neg (by decide +kernel)]; exact ⟨rfl, rfl⟩))
    (fun os started H enc _ => lifted os started H enc)

end Go.Proofs.YtjagnidkjpmkcaaDoor.numberLabels
namespace Go.Proofs.YtjagnidkjpmkcaaDoor

theorem numberLabels_holds : Rows.NumberLabelsCardSaid :=
  Claim7.holds_tied_plain_at .later [] [.data, .data, .data] true (true, "c601c4f8caee564fb420438873ca0a117589b02a3eb6d476e76363b032b0e9b9") false numberLabels.over (fun _ h => by cases h) (by kernel_rfl) (fun _ h => by cases h) numberLabels_row_tie rfl ⟨rfl, rfl⟩ (by kernel_rfl) rfl
    (fun f fn hf hfn => by
      obtain rfl : f = 4 := Option.some.inj ((show Tryd.prog.funcNamed "quire/quirelaw04.NumberLabels" = some 4 by kernel_rfl).symm.trans hf) |>.symm
      obtain rfl : fn = Tryd.f4 := (Option.some.inj (Tryd.func4.symm.trans hfn)).symm
      exact ⟨by kernel_rfl, fun j t ht => by
        rw [Tryd.params4] at ht
        have hm : t ∈ [28, 3] := by simpa using Array.mem_of_getElem? ht
        have hall : ([28, 3].all fun u => !Tryd.prog.wantsStandIn u) = true := by kernel_rfl
        exact (show Tryd.prog.wantsStandIn t = false by simpa using List.all_eq_true.1 hall t hm)⟩)
    (by kernel_rfl)

end Go.Proofs.YtjagnidkjpmkcaaDoor
