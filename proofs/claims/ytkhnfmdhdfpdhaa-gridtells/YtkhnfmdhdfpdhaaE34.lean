/-
  What is proved here: grid and the document answer alike, for every table and width.
  What is proved here: GridTells answers true.
-/
import Derived.Test.YtkhnfmdhdfpdhaaE32
import Derived.Test.YtkhnfmdhdfpdhaaE33
namespace Go.Proofs.Ytkhnfmdhdfpdhaa
open Go.RowKit Go.Shelf

/-- A row of one's own that may be written over. -/
def Own (base : Nat) (W : World) (u : Value) (L : List Int) : Prop := W.ownsRow base 3 1 u L.length (ints L) ∧ AllI W u
theorem Own.at {base : Nat} {W : World} {u : Value} {L : List Int} (h : Own base W u L) : InAt W u L := in_of_row rfl h.1
theorem Own.nil (base : Nat) (W : World) : Own base W (.slice none 0 0) [] := ⟨World.ownsRow_nil _ _ _ _, fun g n cap cur e => by cases e⟩
theorem Own.turns {base : Nat} {W W' : World} {u : Value} {L : List Int} {X : Nat → Prop} (h : Own base W u L) (ht : Turns X W W') (hX : ∀ g, u.ownBlock = some g → ¬ X g) : Own base W' u L :=
  ⟨ownsRow_turns h.1 ht hX, h.2.keep fun g hg => ht.block g (h.1.lt g hg).2 (hX g hg)⟩
theorem Own.below {base n : Nat} {W W' : World} {u : Value} {L : List Int} (h : Own base W u L) (hb : Below n W W') (hn : W.heap.size ≤ n) : Own base W' u L := by
  have ht : ∀ g, u.ownBlock = some g → W'.heap[g]? = W.heap[g]? := fun g hg => hb.block g (Nat.lt_of_lt_of_le (h.1.lt g hg).2 hn)
  refine ⟨⟨h.1.1, ?_⟩, h.2.keep ht⟩
  rcases h.1.2 with h2 | ⟨g, cap, cur, rfl, hg, hc, r⟩
  · exact .inl h2
  · exact .inr ⟨g, cap, cur, rfl, hg, (ht g rfl).trans hc, r⟩
theorem Own.over {base : Nat} {W : World} {u : Value} {L : List Int} (h : Own base W u L) : Calls Try.prog 19 #[u] W fun e w' => e = .returned (.tuple #[]) ∧ Turns (fun k => u.ownBlock = some k) W w' := overInts_row W h.1 h.2
theorem IBk.own {W : World} {b base : Nat} {l : List Int} (h : IBk W b l) (hb : base ≤ b) (hl : l.length ≤ 1000) (hr : ∀ k, k < l.length → 0 ≤ l.getD k 0 ∧ l.getD k 0 ≤ 9223372036854775807) : Own base W (.slice (some ⟨b, 0, none⟩) l.length l.length) l := by
  refine ⟨⟨by simp [ints], .inr ⟨b, l.length, _, rfl, hb, h, Nat.le_refl _, by unfold maxLen; omega, by simp [ints], by show (ints l).take (l.length * 1) = ints l; exact List.take_of_length_le (by simp [ints])⟩⟩, fun g n cap cur e hg u hu => ?_⟩
  cases e
  have he := hg.symm.trans h
  cases he
  simp [ints] at hu
  obtain ⟨x, hx, rfl⟩ := hu
  obtain ⟨k, hk, rfl⟩ := List.getElem_of_mem hx
  have := hr k hk
  rw [List.getD_eq_getElem?_getD, List.getElem?_eq_getElem hk] at this
  simp only [Option.getD_some] at this
  exact ⟨_, rfl, by omega, this.2⟩
/-- What both sides answer. -/
structure Both (c : Int) (l : List ByteArray) (q : Int) (LA LM LW : List Int) (x1 x3 : Int) (bb : Bool) : Prop where
  few : LA.length ≤ 8 ∧ LM.length ≤ 8 ∧ LW.length ≤ 8
  p7 : ∀ v W, StrsAt W v l → Calls Try.prog 7 #[.agg #[.int .i64 c, v]] W fun e w' => ∃ u, e = .returned (.tuple #[u, .int .i64 x1]) ∧ Own W.heap.size w' u LA ∧ Below W.heap.size W w'
  p8 : ∀ v W, StrsAt W v l → Calls Try.prog 8 #[.agg #[.int .i64 c, v]] W fun e w' => ∃ u, e = .returned (.tuple #[u, .int .i64 x1]) ∧ InAt w' u LA ∧ Below W.heap.size W w'
  p9 : ∀ v W, StrsAt W v l → Calls Try.prog 9 #[.agg #[.int .i64 c, v]] W fun e w' => ∃ u, e = .returned (.tuple #[u, .int .i64 x1]) ∧ Own W.heap.size w' u LM ∧ Below W.heap.size W w'
  p10 : ∀ v W, StrsAt W v l → Calls Try.prog 10 #[.agg #[.int .i64 c, v]] W fun e w' => ∃ u, e = .returned (.tuple #[u, .int .i64 x1]) ∧ InAt w' u LM ∧ Below W.heap.size W w'
  p11 : ∀ v W, StrsAt W v l → Calls Try.prog 11 #[.agg #[.int .i64 c, v], .int .i64 q] W fun e w' => ∃ u, e = .returned (.tuple #[u, .bool bb, .int .i64 x3]) ∧ Own W.heap.size w' u LW ∧ Below W.heap.size W w'
  p12 : ∀ v W, StrsAt W v l → Calls Try.prog 12 #[.agg #[.int .i64 c, v], .int .i64 q] W fun e w' => ∃ u, e = .returned (.tuple #[u, .bool bb, .int .i64 x3]) ∧ InAt w' u LW ∧ (∀ g, u.ownBlock = some g → W.heap.size ≤ g) ∧ Below W.heap.size W w'
theorem nil_fresh (n : Nat) : ∀ g, (Value.slice none 0 0).ownBlock = some g → n ≤ g := fun g h => by cases h
theorem both_any (c : Int) (l : List ByteArray) (q : Int) (hl : l.length ≤ 9223372036854775807) (hsz : ∀ t ∈ l, t.size ≤ 9223372036854775807) : ∃ LA LM LW x1 x3 bb, Both c l q LA LM LW x1 x3 bb := by
  by_cases hz : chkG c l = 0
  · obtain ⟨n, rfl, hn1, hl1, hd1, hC1⟩ := chk_ok hz
    have hT : Tab n l := ⟨hn1, hl1, hd1, hC1⟩
    have eN : ((n : Nat) : Int).toNat = n := rfl
    have hA : (leS n l n).length = n := by simp [leS]
    have hM : (leM n l n).length = n := by simp [leM]
    have p7 : ∀ v W, StrsAt W v l → Calls Try.prog 7 #[.agg #[.int .i64 n, v]] W fun e w' => ∃ u, e = .returned (.tuple #[u, .int .i64 0]) ∧ Own W.heap.size w' u (leS n l n) ∧ Below W.heap.size W w' := fun v W h => by
      refine (gleast_any n v l hl hsz W h).mono ?_
      rintro e w' (⟨h, _⟩ | ⟨_, u, he, hr, hb⟩)
      · exact absurd hz h
      · rw [eN] at hr
        exact ⟨u, he, by unfold Own; rw [hA]; exact hr, hb⟩
    have p8 : ∀ v W, StrsAt W v l → Calls Try.prog 8 #[.agg #[.int .i64 n, v]] W fun e w' => ∃ u, e = .returned (.tuple #[u, .int .i64 0]) ∧ InAt w' u (leS n l n) ∧ Below W.heap.size W w' := fun v W h => by
      refine (rleast_any n v l hl hsz W h).mono ?_
      rintro e w' ⟨hb, ⟨h, _⟩ | ⟨_, u, he, hr⟩⟩
      · exact absurd hz h
      · exact ⟨u, he, hr, hb⟩
    have p9 : ∀ v W, StrsAt W v l → Calls Try.prog 9 #[.agg #[.int .i64 n, v]] W fun e w' => ∃ u, e = .returned (.tuple #[u, .int .i64 0]) ∧ Own W.heap.size w' u (leM n l n) ∧ Below W.heap.size W w' := fun v W h => by
      refine (gmost_any n v l hl hsz W h).mono ?_
      rintro e w' (⟨h, _⟩ | ⟨_, u, he, hr, hb⟩)
      · exact absurd hz h
      · rw [eN] at hr
        exact ⟨u, he, by unfold Own; rw [hM]; exact hr, hb⟩
    have p10 : ∀ v W, StrsAt W v l → Calls Try.prog 10 #[.agg #[.int .i64 n, v]] W fun e w' => ∃ u, e = .returned (.tuple #[u, .int .i64 0]) ∧ InAt w' u (leM n l n) ∧ Below W.heap.size W w' := fun v W h => by
      refine (rmost_any n v l hl hsz W h).mono ?_
      rintro e w' ⟨hb, ⟨h, _⟩ | ⟨_, u, he, hr⟩⟩
      · exact absurd hz h
      · exact ⟨u, he, hr, hb⟩
    by_cases hq : 0 ≤ q ∧ q ≤ 4095
    · have hfit := fit_of hT hq
      refine ⟨_, _, wdL n l q, 0, 0, decide (q < sumS n l), ⟨by omega, by omega, by rw [hfit.hl]; omega⟩, p7, p8, p9, p10, fun v W h => ?_, fun v W h => ?_⟩
      · refine (widths_any n v l q hl hsz W h).mono ?_
        rintro e w' ⟨hb, h | h | ⟨_, _, b, hbb, he, hi⟩⟩
        · exact absurd hz h.1
        · exact absurd hq h.2.1
        · rw [eN] at he hi
          have ho := hi.own hbb (by rw [hfit.hl]; omega) (fun k hk => by rw [hfit.hl] at hk; have := hfit.lo k hk; omega)
          rw [hfit.hl] at ho
          exact ⟨_, he, ho, hb⟩
      · refine (rwidths_any n v l q hl hsz W h).mono ?_
        rintro e w' ⟨hb, h | h | ⟨_, _, u, he, hi, hf⟩⟩
        · exact absurd hz h.1
        · exact absurd hq h.2.1
        · exact ⟨u, he, hi, hf, hb⟩
    · refine ⟨_, _, [], 0, 5, false, ⟨by omega, by omega, by simp⟩, p7, p8, p9, p10, fun v W h => ?_, fun v W h => ?_⟩
      · refine (widths_any n v l q hl hsz W h).mono ?_
        rintro e w' ⟨hb, h | h | h⟩
        · exact absurd hz h.1
        · exact ⟨_, h.2.2, Own.nil _ _, hb⟩
        · exact absurd h.2.1 hq
      · refine (rwidths_any n v l q hl hsz W h).mono ?_
        rintro e w' ⟨hb, h | h | h⟩
        · exact absurd hz h.1
        · exact ⟨_, h.2.2, in_nil _, nil_fresh _, hb⟩
        · exact absurd h.2.1 hq
  · refine ⟨[], [], [], chkG c l, chkG c l, false, ⟨by simp, by simp, by simp⟩, fun v W h => ?_, fun v W h => ?_, fun v W h => ?_, fun v W h => ?_, fun v W h => ?_, fun v W h => ?_⟩
    · refine (gleast_any c v l hl hsz W h).mono ?_
      rintro e w' (⟨_, he, hb⟩ | ⟨h, _⟩)
      · exact ⟨_, he, Own.nil _ _, hb⟩
      · exact absurd h hz
    · refine (rleast_any c v l hl hsz W h).mono ?_
      rintro e w' ⟨hb, ⟨_, he⟩ | ⟨h, _⟩⟩
      · exact ⟨_, he, in_nil _, hb⟩
      · exact absurd h hz
    · refine (gmost_any c v l hl hsz W h).mono ?_
      rintro e w' (⟨_, he, hb⟩ | ⟨h, _⟩)
      · exact ⟨_, he, Own.nil _ _, hb⟩
      · exact absurd h hz
    · refine (rmost_any c v l hl hsz W h).mono ?_
      rintro e w' ⟨hb, ⟨_, he⟩ | ⟨h, _⟩⟩
      · exact ⟨_, he, in_nil _, hb⟩
      · exact absurd h hz
    · refine (widths_any c v l q hl hsz W h).mono ?_
      rintro e w' ⟨hb, h | h | h⟩
      · exact ⟨_, h.2, Own.nil _ _, hb⟩
      · exact absurd h.1 hz
      · exact absurd h.1 hz
    · refine (rwidths_any c v l q hl hsz W h).mono ?_
      rintro e w' ⟨hb, h | h | h⟩
      · exact ⟨_, h.2, in_nil _, nil_fresh _, hb⟩
      · exact absurd h.1 hz
      · exact absurd h.1 hz
end Go.Proofs.Ytkhnfmdhdfpdhaa

namespace Go.Proofs.Ytkhnfmdhdfpdhaa
open Go.RowKit Go.Shelf

set_option maxRecDepth 100000 in
set_option maxHeartbeats 8000000 in
theorem tells_many (c : Int) (v : Value) (l : List ByteArray) (q : Int) (x : ByteArray) (_hx : x.size ≤ 9223372036854775807) (hlen : l.length ≤ 9223372036854775807) (_hsz : ∀ t ∈ l, t.size ≤ 9223372036854775807) (w : World) (hS : StrsAt w v l) (h100 : 100 < l.length) :
    Calls Try.prog 3 #[.agg #[.int .i64 c, v], .int .i64 q, .string x] w fun e w' => e = .returned (.bool true) ∧ Below w.heap.size w w' := by
  have hB0 := (Below.refl w.heap.size w).alloc (Nat.le_refl _) (.cells #[.int .i64 c, v] 24)
  have hS0 := hS.below hB0 (Nat.le_refl _)
  have hs0 : (w.alloc (.cells #[.int .i64 c, v] 24)).heap.size = w.heap.size + 1 := World.size_alloc _ _
  have hT0 := TI.new w c v
  have c0 := hT0.c0
  have c1 := hT0.c1
  obtain ⟨a, cap, rfl, -⟩ := hS.ex
  have hgt : (100 : Int) < (l.length : Int) := by omega
  go_enter Try.func3, Try.ntmps3
  go_wp2_with fail
  go_ret
  exact ⟨rfl, hB0⟩

set_option maxRecDepth 100000 in
set_option maxHeartbeats 8000000 in
theorem tells_long (c : Int) (v : Value) (l : List ByteArray) (q : Int) (x : ByteArray) (hx : x.size ≤ 9223372036854775807) (hlen : l.length ≤ 9223372036854775807) (_hsz : ∀ t ∈ l, t.size ≤ 9223372036854775807) (w : World) (hS : StrsAt w v l) (h100 : ¬ 100 < l.length) (h300 : 300 < x.size) :
    Calls Try.prog 3 #[.agg #[.int .i64 c, v], .int .i64 q, .string x] w fun e w' => e = .returned (.bool true) ∧ Below w.heap.size w w' := by
  have hB0 := (Below.refl w.heap.size w).alloc (Nat.le_refl _) (.cells #[.int .i64 c, v] 24)
  have hS0 := hS.below hB0 (Nat.le_refl _)
  have hs0 : (w.alloc (.cells #[.int .i64 c, v] 24)).heap.size = w.heap.size + 1 := World.size_alloc _ _
  have hT0 := TI.new w c v
  have c0 := hT0.c0
  have c1 := hT0.c1
  obtain ⟨a, cap, rfl, -⟩ := hS.ex
  have hgt : ¬ (100 : Int) < (l.length : Int) := by omega
  have hgt3 : (300 : Int) < (x.size : Int) := by omega
  go_enter Try.func3, Try.ntmps3
  go_wp2_with fail
  go_ret
  exact ⟨rfl, hB0⟩

set_option maxRecDepth 100000 in
set_option maxHeartbeats 8000000 in
theorem tells_main (c : Int) (v : Value) (l : List ByteArray) (q : Int) (x : ByteArray) (hx : x.size ≤ 9223372036854775807) (hlen : l.length ≤ 9223372036854775807) (hsz : ∀ t ∈ l, t.size ≤ 9223372036854775807) (w : World) (hS : StrsAt w v l) (h100 : ¬ 100 < l.length) (h300 : ¬ 300 < x.size) :
    Calls Try.prog 3 #[.agg #[.int .i64 c, v], .int .i64 q, .string x] w fun e w' => e = .returned (.bool true) ∧ Below w.heap.size w w' := by
  have hB0 := (Below.refl w.heap.size w).alloc (Nat.le_refl _) (.cells #[.int .i64 c, v] 24)
  have hS0 := hS.below hB0 (Nat.le_refl _)
  have hs0 : (w.alloc (.cells #[.int .i64 c, v] 24)).heap.size = w.heap.size + 1 := World.size_alloc _ _
  have hT0 := TI.new w c v
  have hgt : ¬ (100 : Int) < (l.length : Int) := by omega
  have hgt3 : ¬ (300 : Int) < (x.size : Int) := by omega
  obtain ⟨LA, LM, LW, x1, x3, bb, ⟨q1, q2, q3⟩, p7, p8, p9, p10, p11, p12⟩ := both_any c l q hlen hsz
  have hlent := fun W h => lentT_any c v l (by omega) W h
  have hck := fun u W h => gcheck_any c u l hlen hsz W h
  have hrk := fun W h => rcheck_any16 c v l hlen hsz W h
  have hkept := fun g W h1 h2 => kept_any g v l (by omega) W h1 h2
  have hsame := fun u1 u2 L (h : L.length ≤ 8) W h1 h2 => sameInts_yes u1 u2 L (by omega) W h1 h2
  have hcell := fun W => cell_any x hx W
  have hrcell := fun W => rcell_any x hx W
  obtain ⟨a, cap, rfl, h2⟩ := hS0.ex
  have hS0' : Hid _ := hS0
  clear hS hS0
  have c0 := hT0.c0
  have c1 := hT0.c1
  go_enter Try.func3, Try.ntmps3
  go_wp2_with fail
  have hlw : w.heap.size < (w.alloc (.cells #[.int .i64 c, .slice a l.length cap] 24)).heap.size := by omega
  generalize w.alloc (.cells #[.int .i64 c, .slice a l.length cap] 24) = w1 at *
  go_loopw [7] (fun i wr => ∃ k : Nat, k ≤ l.length ∧ i = .int .i64 (k : Int) ∧ wr = w1) (fun i _ => l.length - (intOf i).toNat)
  case atStart => exact ⟨0, by omega, rfl, rfl⟩
  case round =>
    obtain ⟨k, hk, rfl, rfl⟩ := hrel
    by_cases hlt : k < l.length
    · rcases h2 with h2 | ⟨b, o, rfl, hbl, hc⟩
      · rw [h2] at hlt; simp at hlt
      have hlt' : (k : Int) < l.length := by omega
      have d0 : wr.cell? ⟨b, o + k, none⟩ = some (.string l[k]) := hc k hlt
      clear hc p7 p8 p9 p10 p11 p12 hlent hck hrk hkept hsame hcell hrcell
      generalize l[k] = y at *
      by_cases h3 : (300 : Int) < y.size
      · go_wp2_with fail
        go_ret
        exact ⟨rfl, hB0⟩
      · go_wp2_with fail
        go_roundw
        case rel => exact ⟨k + 1, by omega, by simp, by first | rfl | trivial⟩
        case measure => simp [intOf]; omega
    · obtain rfl : k = l.length := by omega
      have hge : ¬ (l.length : Int) < l.length := by omega
      clear h2
      have hS1 := hS0'.out
      clear hS0'
      have s1 : True := trivial
      have s2 : True := trivial
      have s3 : True := trivial
      go_wp2_with (first
        | (go_at_call 6; refine (hlent _ hS1).mono ?_; rintro e w2 ⟨g, hg, rfl, hK2, b2⟩; have hB2 := b2.alloc b2.size (.cells #[.int .i64 c, .slice (some ⟨g, 0, none⟩) l.length (l.length + 3)] 24); have hI3 := TI.new w2 c (.slice (some ⟨g, 0, none⟩) l.length (l.length + 3)); have hT3 := hT0.below hB2 hlw; have hK3 := hK2.turns (Turns.alloc Noth w2 (.cells #[.int .i64 c, .slice (some ⟨g, 0, none⟩) l.length (l.length + 3)] 24)) (fun h => h); have hV3 := hS1.below hB2 (Nat.le_refl _); have hlg := hK2.lt; have hl3 : (w2.alloc (.cells #[.int .i64 c, .slice (some ⟨g, 0, none⟩) l.length (l.length + 3)] 24)).heap.size = w2.heap.size + 1 := World.size_alloc _ _; obtain ⟨w3, hw3⟩ : ∃ w3, w2.alloc (.cells #[.int .i64 c, .slice (some ⟨g, 0, none⟩) l.length (l.length + 3)] 24) = w3 := ⟨_, rfl⟩; rw [hw3] at hB2 hI3 hT3 hK3 hV3 hl3; (have hw3' : Hid (w2.alloc (.cells #[.int .i64 c, .slice (some ⟨g, 0, none⟩) l.length (l.length + 3)] 24) = w3) := hw3); have i0 := hI3.c0; have i1 := hI3.c1; have j0 := hT3.c0; have j1 := hT3.c1; rw [← hw3] at i0 i1 j0 j1; clear hw3)
        | (go_at_call 7; rw [hw3'.out]; refine (p7 _ w3 (hK3.strs (by omega))).mono ?_; rintro e w4 ⟨u9, rfl, o9, k4⟩; have I4 := hI3.below k4 hI3.lt; have T4 := hT3.below k4 hT3.lt; have K4 := hK3.below k4 hK3.lt; have V4 := hV3.below k4 (Nat.le_refl _); have i40 := I4.c0; have i41 := I4.c1; have j40 := T4.c0; have j41 := T4.c1)
        | (go_at_call 8; refine (p8 _ w4 V4).mono ?_; rintro e w5 ⟨u11, rfl, r11, k5⟩; have I5 := I4.below k5 I4.lt; have T5 := T4.below k5 T4.lt; have K5 := K4.below k5 K4.lt; have V5 := V4.below k5 (Nat.le_refl _); have i50 := I5.c0; have i51 := I5.c1; have j50 := T5.c0; have j51 := T5.c1; have o9 := o9.below k5 (Nat.le_refl _))
        | (go_at_call 9; refine (p9 _ w5 (K5.strs (by omega))).mono ?_; rintro e w6 ⟨u13, rfl, o13, k6⟩; have I6 := I5.below k6 I5.lt; have T6 := T5.below k6 T5.lt; have K6 := K5.below k6 K5.lt; have V6 := V5.below k6 (Nat.le_refl _); have i60 := I6.c0; have i61 := I6.c1; have j60 := T6.c0; have j61 := T6.c1; have o9 := o9.below k6 (Nat.le_refl _); have r11 := r11.below k6 (Nat.le_refl _))
        | (go_at_call 10; refine (p10 _ w6 V6).mono ?_; rintro e w7 ⟨u15, rfl, r15, k7⟩; have I7 := I6.below k7 I6.lt; have T7 := T6.below k7 T6.lt; have K7 := K6.below k7 K6.lt; have V7 := V6.below k7 (Nat.le_refl _); have i70 := I7.c0; have i71 := I7.c1; have j70 := T7.c0; have j71 := T7.c1; have o9 := o9.below k7 (Nat.le_refl _); have r11 := r11.below k7 (Nat.le_refl _); have hlt13 := fun g' hg' => (o13.1.lt g' hg').2; have o13 := o13.below k7 (Nat.le_refl _))
        | (go_at_call 11; clear s1; refine (p11 _ w7 (K7.strs (by omega))).mono ?_; rintro e w8 ⟨u17, rfl, o17, k8⟩; have I8 := I7.below k8 I7.lt; have T8 := T7.below k8 T7.lt; have K8 := K7.below k8 K7.lt; have V8 := V7.below k8 (Nat.le_refl _); have i80 := I8.c0; have i81 := I8.c1; have j80 := T8.c0; have j81 := T8.c1; have o9 := o9.below k8 (Nat.le_refl _); have r11 := r11.below k8 (Nat.le_refl _); have o13 := o13.below k8 (Nat.le_refl _); have r15 := r15.below k8 (Nat.le_refl _); have hlt17 := fun g' hg' => (o17.1.lt g' hg').2)
        | (go_at_call 12; refine (p12 _ w8 V8).mono ?_; rintro e w9 ⟨u20, rfl, r20, f20, k9⟩; have I9 := I8.below k9 I8.lt; have T9 := T8.below k9 T8.lt; have K9 := K8.below k9 K8.lt; have V9 := V8.below k9 (Nat.le_refl _); have i90 := I9.c0; have i91 := I9.c1; have j90 := T9.c0; have j91 := T9.c1; have o9 := o9.below k9 (Nat.le_refl _); have r11 := r11.below k9 (Nat.le_refl _); have o13 := o13.below k9 (Nat.le_refl _); have r15 := r15.below k9 (Nat.le_refl _); have o17 := o17.below k9 (Nat.le_refl _)))
      refine tells_r15 _ (fun _ _ _ _ _ h => h) _ _ w.heap.size w2.heap.size c x1 x1 x3 (chkG c l) bb x (.slice (some ⟨g, 0, none⟩) l.length (l.length + 3)) _ w9 I9 T9 ?hC1 ?hC2 ?hC3 ?hD14 ?hD15 ?hE17 ?hE18 ?hE16 ?rest
      case hC1 =>
        intro W hb
        refine (hsame _ _ LA q1 W (o9.at.below hb (Nat.le_refl _)) (r11.below hb (Nat.le_refl _))).mono ?_
        rintro e w' ⟨rfl, hb2⟩
        exact ⟨rfl, hb.trans (hb2.mono hb.size)⟩
      case hC2 =>
        intro W hb
        refine (hsame _ _ LM q2 W (o13.at.below hb (Nat.le_refl _)) (r15.below hb (Nat.le_refl _))).mono ?_
        rintro e w' ⟨rfl, hb2⟩
        exact ⟨rfl, hb.trans (hb2.mono hb.size)⟩
      case hC3 =>
        intro W hb
        refine (hsame _ _ LW q3 W (o17.at.below hb (Nat.le_refl _)) (r20.below hb (Nat.le_refl _))).mono ?_
        rintro e w' ⟨rfl, hb2⟩
        exact ⟨rfl, hb.trans (hb2.mono hb.size)⟩
      case hD14 =>
        intro W hb
        refine (hck _ W ((K9.strs (by omega)).below hb (Nat.le_refl _))).mono ?_
        rintro e w' ⟨rfl, hb2⟩
        exact ⟨rfl, hb.trans (hb2.mono hb.size)⟩
      case hD15 =>
        intro W hb
        refine (hrk W (V9.below hb (Nat.le_refl _))).mono ?_
        rintro e w' ⟨rfl, hb2⟩
        exact ⟨rfl, hb.trans (hb2.mono hb.size)⟩
      case hE17 =>
        intro W hb
        refine (hcell W).mono ?_
        rintro e w' ⟨sv, rfl, hp, hb2⟩
        exact ⟨sv, rfl, hp, hb.trans (hb2.mono hb.size)⟩
      case hE18 =>
        intro W sv hb hp
        refine (hrcell W).mono ?_
        rintro e w' ⟨sv', rfl, hp', hb2⟩
        exact ⟨sv', rfl, hp', hp.below hb2 (Nat.le_refl _), hb.trans (hb2.mono hb.size)⟩
      case hE16 =>
        intro W sv sv' hb hp hp'
        refine (samePara_yes (cellPa x sv') sv (.slice none 0 0) W hp' hp).mono ?_
        rintro e w' ⟨rfl, hb2⟩
        exact ⟨rfl, hb.trans (hb2.mono hb.size)⟩
      case rest =>
        intro sv sv' w10 k10
        have I10 := I9.below k10 I9.lt
        have T10 := T9.below k10 T9.lt
        have K10 := K9.below k10 K9.lt
        have V10 := V9.below k10 (Nat.le_refl _)
        have i100 := I10.c0
        have i101 := I10.c1
        have j100 := T10.c0
        have j101 := T10.c1
        have o13 := o13.below k10 (Nat.le_refl _)
        have o17 := o17.below k10 (Nat.le_refl _)
        have r20 := r20.below k10 (Nat.le_refl _)
        have z7 := k8.size
        have z8 := k9.size
        have z9 := k10.size
        have z5 := k6.size
        have z6 := k7.size
        have z3 := k4.size
        have z4 := k5.size
        have d7 := k8.trans ((k9.trans (k10.mono z8)).mono z7)
        have d5 := k6.trans ((k7.trans (d7.mono z6)).mono z5)
        have zr := hB0.size
        have zq := hB2.size
        clear o9 r11 r15 hck hrk hcell hrcell p7 p8 p9 p10 p12 hlent
        have haw := awake_any
        go_wp2_with (first
          | (go_at_call 19; clear s2; refine o17.over.mono ?_; rintro e w11 ⟨rfl, t11⟩; have b11 := t11.below (n := w7.heap.size) (by omega) (fun k' hk' => (o17.1.lt k' hk').1); have I11 := I10.turns t11 (fun h => by have := (o17.1.lt _ h).1; omega); have T11 := T10.turns t11 (fun h => by have := (o17.1.lt _ h).1; omega); have K11 := K10.turns t11 (fun h => by have := (o17.1.lt _ h).1; omega); have r20 := rec_any r20 t11 (fun g' hg' h' => by have e1 := f20 g' hg'; have e2 := hlt17 g' h'; omega); have o13 := o13.turns t11 (fun g' hg' h' => by have e1 := (o17.1.lt g' h').1; have e2 := hlt13 g' hg'; omega); have z10 := t11.size)
          | (go_at_call 19; refine o13.over.mono ?_; rintro e w12 ⟨rfl, t12⟩; have b12 := t12.below (n := w5.heap.size) (by omega) (fun k' hk' => (o13.1.lt k' hk').1); have I12 := I11.turns t12 (fun h => by have := (o13.1.lt _ h).1; omega); have T12 := T11.turns t12 (fun h => by have := (o13.1.lt _ h).1; omega); have K12 := K11.turns t12 (fun h => by have := (o13.1.lt _ h).1; omega); have r20 := rec_any r20 t12 (fun g' hg' h' => by have e1 := f20 g' hg'; have e2 := hlt13 g' h'; omega); have z11 := t12.size; have i120 := I12.c0; have i121 := I12.c1)
          | (go_at_call 11; refine (p11 _ w12 (K12.strs (by omega))).mono ?_; rintro e w13 ⟨u23, rfl, o23, k13⟩; have I13 := I12.below k13 (by omega); have T13 := T12.below k13 (by omega); have K13 := K12.below k13 K12.lt; have r20 := r20.below k13 (Nat.le_refl _); have i130 := I13.c0; have i131 := I13.c1; have j130 := T13.c0; have j131 := T13.c1; have z12 := k13.size)
          | (go_at_call 13; refine (hsame _ _ LW q3 w13 o23.at r20).mono ?_; rintro e w14 ⟨rfl, k14⟩; have I14 := I13.below k14 (by omega); have T14 := T13.below k14 (by omega); have K14 := K13.below k14 K13.lt; have i140 := I14.c0; have i141 := I14.c1; have j140 := T14.c0; have j141 := T14.c1)
          | (go_at_call 20; refine (hkept g w14 K14 (tx_of_strs (V5.below (((d5.trans (b11.mono (by omega))).trans b12).trans ((k13.trans (k14.mono z12)).mono (by omega))) (Nat.le_refl _)))).mono ?_; rintro e w15 ⟨rfl, k15⟩)
          | (go_at_call 21; refine (haw w15).mono ?_; rintro e w16 ⟨rfl, k16⟩))
        go_ret
        refine ⟨rfl, ?_⟩
        have z13 := k14.size
        have z14 := k15.size
        have e4 := (hB0.trans (hB2.mono (by omega))).trans (k4.mono (by omega))
        have e5 := (e4.trans (k5.mono (by omega))).trans (d5.mono (by omega))
        have e12 := (e5.trans (b11.mono (by omega))).trans (b12.mono (by omega))
        have e14 := (e12.trans (k13.mono (by omega))).trans (k14.mono (by omega))
        exact (e14.trans (k15.mono (by omega))).trans (k16.mono (by omega))

theorem tells_any (c : Int) (v : Value) (l : List ByteArray) (q : Int) (x : ByteArray) (hx : x.size ≤ 9223372036854775807) (hlen : l.length ≤ 9223372036854775807) (hsz : ∀ t ∈ l, t.size ≤ 9223372036854775807) (w : World) (hS : StrsAt w v l) :
    Calls Try.prog 3 #[.agg #[.int .i64 c, v], .int .i64 q, .string x] w fun e w' => e = .returned (.bool true) ∧ Below w.heap.size w w' := by
  by_cases h100 : 100 < l.length
  · exact tells_many c v l q x hx hlen hsz w hS h100
  by_cases h300 : 300 < x.size
  · exact tells_long c v l q x hx hlen hsz w hS h100 h300
  exact tells_main c v l q x hx hlen hsz w hS h100 h300
end Go.Proofs.Ytkhnfmdhdfpdhaa
