/-
  What is proved here: GridKnown answers true.
-/
import Derived.Test.YtkhnfmdhdfpdhaaGrP
import Derived.Test.YtkhnfmdhdfpdhaaShelf
namespace Go.Proofs.Ytkhnfmdhdfpdhaa
open Go.RowKit Go.Shelf

def exm : List ByteArray := [⟨#[97]⟩, ⟨#[98]⟩, ⟨#[99]⟩]
/-- 201 letters. -/
def big : ByteArray := ⟨(Lib.repeatL (⟨#[97]⟩ : ByteArray).data.toList 201).toArray⟩
theorem ex_ckm : chkG 2 exm = 2 := by kernel_rfl
theorem ex_ckz : chkG 0 [] = 2 := by kernel_rfl
theorem big_size : big.size = 201 := by kernel_rfl
theorem ex_ckb : chkG 1 [big] = 2 := by
  have h : cellB big = false := decide_eq_false (fun h => by have := h.1; rw [big_size] at this; omega)
  unfold chkG
  rw [if_neg]
  intro h'
  have := h'.2.2.2
  simp [h] at this
theorem lit9 (w : World) (l : List ByteArray) : StrsAt (w.alloc (.cells (l.map Value.string).toArray 9)) (.slice (some ⟨w.heap.size, 0, none⟩) l.length l.length) l := strs_new w l
theorem strs_nil (w : World) : StrsAt w (.slice none 0 0) [] := ⟨⟨none, 0, rfl, .inl rfl⟩, fun a n c e => by cases e; exact Nat.le_refl _⟩

set_option maxRecDepth 100000 in
set_option maxHeartbeats 4000000 in
theorem known_any (w : World) : Calls Try.prog 4 #[] w fun e w' => e = .returned (.bool true) ∧ Below w.heap.size w w' := by
  have f1 : True := trivial
  have f2 : True := trivial
  have g1 : True := trivial
  have g2 : True := trivial
  have d1 : True := trivial
  have k1 : True := trivial
  have k2 : True := trivial
  have k3 : True := trivial
  have hex := example_any
  have hle : ∀ v W, StrsAt W v exl → Calls Try.prog 7 #[.agg #[.int .i64 2, v]] W fun e w' => ∃ u, e = .returned (.tuple #[u, .int .i64 0]) ∧ InAt w' u [14, 14] ∧ Below W.heap.size W w' := fun v W hS => by
    refine (gleast_any 2 v exl (by decide) ex_small W hS).mono ?_
    rintro e w' (⟨h, _⟩ | ⟨_, u, he, ⟨hr, _⟩, hb⟩)
    · exact absurd ex_ck h
    · rw [show (2 : Int).toNat = 2 from rfl, ex_ls.1] at hr
      exact ⟨u, he, in_of_row rfl hr, hb⟩
  have hmo : ∀ v W, StrsAt W v exl → Calls Try.prog 9 #[.agg #[.int .i64 2, v]] W fun e w' => ∃ u, e = .returned (.tuple #[u, .int .i64 0]) ∧ InAt w' u [22, 14] ∧ Below W.heap.size W w' := fun v W hS => by
    refine (gmost_any 2 v exl (by decide) ex_small W hS).mono ?_
    rintro e w' (⟨h, _⟩ | ⟨_, u, he, ⟨hr, _⟩, hb⟩)
    · exact absurd ex_ck h
    · rw [show (2 : Int).toNat = 2 from rfl, ex_ls.2] at hr
      exact ⟨u, he, in_of_row rfl hr, hb⟩
  have hwn : ∀ v W, StrsAt W v exl → Calls Try.prog 11 #[.agg #[.int .i64 2, v], .int .i64 (-1)] W fun e w' => e = .returned (.tuple #[.slice none 0 0, .bool false, .int .i64 5]) ∧ Below W.heap.size W w' := fun v W hS => by
    refine (widths_any 2 v exl (-1) (by decide) ex_small W hS).mono ?_
    rintro e w' ⟨hb, h | h | h⟩
    · exact absurd ex_ck h.1
    · exact ⟨h.2.2, hb⟩
    · exact absurd h.2.1 (by omega)
  have hc1 : ∀ W, Calls Try.prog 14 #[.agg #[.int .i64 2, .slice (some ⟨W.heap.size, 0, none⟩) 3 3]] (W.alloc (.cells #[.string ⟨#[97]⟩, .string ⟨#[98]⟩, .string ⟨#[99]⟩] 9)) fun e w' => e = .returned (.int .i64 2) ∧ Below W.heap.size W w' := fun W => by
    refine (gcheck_any 2 _ exm (by decide) (sizes_ok _ (by decide)) _ (lit9 W exm)).mono ?_
    rintro e w' ⟨rfl, hb⟩
    have h0 := (Below.refl W.heap.size W).alloc (Nat.le_refl _) (.cells #[.string ⟨#[97]⟩, .string ⟨#[98]⟩, .string ⟨#[99]⟩] 9)
    exact ⟨by rw [ex_ckm], h0.trans (hb.mono h0.size)⟩
  have hc2 : ∀ W, Calls Try.prog 14 #[.agg #[.int .i64 0, .slice none 0 0]] W fun e w' => e = .returned (.int .i64 2) ∧ Below W.heap.size W w' := fun W => by
    refine (gcheck_any 0 _ [] (by decide) (sizes_ok _ (by decide)) _ (strs_nil W)).mono ?_
    rintro e w' ⟨rfl, hb⟩
    exact ⟨by rw [ex_ckz], hb⟩
  have hc3 : ∀ W, Calls Try.prog 14 #[.agg #[.int .i64 1, .slice (some ⟨W.heap.size, 0, none⟩) 1 1]] (W.alloc (.cells #[.string big] 9)) fun e w' => e = .returned (.int .i64 2) ∧ Below W.heap.size W w' := fun W => by
    refine (gcheck_any 1 _ [big] (by show 1 ≤ _; omega) (fun t ht => by rw [List.mem_singleton.1 ht, big_size]; omega) _ (lit9 W [big])).mono ?_
    rintro e w' ⟨rfl, hb⟩
    have h0 := (Below.refl W.heap.size W).alloc (Nat.le_refl _) (.cells #[.string big] 9)
    exact ⟨by rw [ex_ckb], h0.trans (hb.mono h0.size)⟩
  have hrep : ∀ W, Calls Try.prog 23 #[.string ⟨#[97]⟩, .int .i64 201] W fun e w' => e = .returned (.string big) ∧ Below W.heap.size W w' := fun W => Try.strings_Repeat ⟨#[97]⟩ 201 W (by omega) (by show 1 * 201 ≤ _; omega)
  have haw := awake_any
  have hsm : ∀ (L : List Int) (h2 : L.length = 2) u v W, InAt W u L → InAt W v L → Calls Try.prog 13 #[u, v] W fun e w' => e = .returned (.bool true) ∧ Below W.heap.size W w' := fun L h2 u v W a b => sameInts_yes u v L (by omega) W a b
  have hw1 : ∀ (q : Int) (x y : Int) (t : Bool) (hq : 0 ≤ q ∧ q ≤ 4095) (hw : wdL 2 exl q = [x, y] ∧ decide (q < sumS 2 exl) = t) (W : World), Calls Try.prog 24 #[.int .i64 q, .slice (some ⟨W.heap.size, 0, none⟩) 2 2, .bool t] (W.alloc (.cells #[.int .i64 x, .int .i64 y] 3)) fun e w' => e = .returned (.bool true) ∧ Below W.heap.size W w' := fun q x y t hq hw W => by
    refine (wide_yes q _ [x, y] t hq hw rfl _ (lit26 W x y)).mono ?_
    rintro e w' ⟨rfl, hb⟩
    have h0 := (Below.refl W.heap.size W).alloc (Nat.le_refl _) (.cells #[.int .i64 x, .int .i64 y] 3)
    exact ⟨rfl, h0.trans (hb.mono h0.size)⟩
  have hwA := hw1 50 22 14 false (by omega) ex_w50
  have hwB := hw1 36 22 14 false (by omega) ex_w36
  have hwC := hw1 28 14 14 false (by omega) ex_w28
  have hwD := hw1 21 10 11 true (by omega) ex_w21
  clear hw1
  go_enter Try.func4, Try.ntmps4
  go_wp2_with (first
    | (go_at_call 22; clear f1; refine (hex _).mono ?_; rintro e w1 ⟨v1, rfl, hS1, b1⟩)
    | (go_at_call 7; refine (hle _ _ hS1).mono ?_; rintro e w2 ⟨u1, rfl, hI1, b2⟩; have c2 := b1.trans (b2.mono b1.size))
    | (go_at_call 22; clear f2; refine (hex _).mono ?_; rintro e w3 ⟨v2, rfl, hS3, b3⟩; have c3 := c2.trans (b3.mono c2.size); have hI3 := hI1.below b3 (Nat.le_refl _))
    | (go_at_call 9; refine (hmo _ _ hS3).mono ?_; rintro e w4 ⟨u2, rfl, hJ4, b4⟩; have c4 := c3.trans (b4.mono c3.size); have hI4 := hI3.below b4 (Nat.le_refl _))
    | (go_at_call 22; refine (hex _).mono ?_; rintro e w5 ⟨v3, rfl, hS5, b5⟩; have c5 := c4.trans (b5.mono c4.size); have hI5 := hI4.below b5 (Nat.le_refl _); have hJ5 := hJ4.below b5 (Nat.le_refl _))
    | (go_at_call 11; refine (hwn _ _ hS5).mono ?_; rintro e w6 ⟨rfl, b6⟩; have c6 := c5.trans (b6.mono c5.size); have hI6 := hI5.below b6 (Nat.le_refl _); have hJ6 := hJ5.below b6 (Nat.le_refl _))
    | (go_at_call 14; clear g1; refine (hc1 w6).mono ?_; rintro e w7 ⟨rfl, b7⟩; have c7 := c6.trans (b7.mono c6.size); have hI7 := hI6.below b7 (Nat.le_refl _); have hJ7 := hJ6.below b7 (Nat.le_refl _))
    | (go_at_call 14; clear g2; refine (hc2 w7).mono ?_; rintro e w8 ⟨rfl, b8⟩; have c8 := c7.trans (b8.mono c7.size); have hI8 := hI7.below b8 (Nat.le_refl _); have hJ8 := hJ7.below b8 (Nat.le_refl _))
    | (go_at_call 23; refine (hrep w8).mono ?_; rintro e w9 ⟨rfl, b9⟩; have c9 := c8.trans (b9.mono c8.size); have hI9 := hI8.below b9 (Nat.le_refl _); have hJ9 := hJ8.below b9 (Nat.le_refl _))
    | (go_at_call 14; refine (hc3 w9).mono ?_; rintro e w10 ⟨rfl, b10⟩; have c10 := c9.trans (b10.mono c9.size); have hI10 := hI9.below b10 (Nat.le_refl _); have hJ10 := hJ9.below b10 (Nat.le_refl _))
    | (go_at_call 21; refine (haw w10).mono ?_; rintro e w11 ⟨rfl, b11⟩; have c11 := c10.trans (b11.mono c10.size); have hJ11 := hJ10.below b11 (Nat.le_refl _); have hI11 := hI10.below b11 (Nat.le_refl _))
    | (go_at_call 13; clear d1; refine (hsm [14, 14] rfl _ _ _ (hI11.below ((Below.refl w11.heap.size w11).alloc (Nat.le_refl _) (.cells #[.int .i64 14, .int .i64 14] 3)) (Nat.le_refl _)) (lit26 w11 14 14)).mono ?_; rintro e w12 ⟨rfl, b12'⟩; have b12 := ((Below.refl w11.heap.size w11).alloc (Nat.le_refl _) (.cells #[.int .i64 14, .int .i64 14] 3)).trans (b12'.mono (by rw [World.size_alloc]; omega)); have c12 := c11.trans (b12.mono c11.size); have hJ12 := hJ11.below b12 (Nat.le_refl _))
    | (go_at_call 13; refine (hsm [22, 14] rfl _ _ _ (hJ12.below ((Below.refl w12.heap.size w12).alloc (Nat.le_refl _) (.cells #[.int .i64 22, .int .i64 14] 3)) (Nat.le_refl _)) (lit26 w12 22 14)).mono ?_; rintro e w13 ⟨rfl, b13'⟩; have b13 := ((Below.refl w12.heap.size w12).alloc (Nat.le_refl _) (.cells #[.int .i64 22, .int .i64 14] 3)).trans (b13'.mono (by rw [World.size_alloc]; omega)); have c13 := c12.trans (b13.mono c12.size))
    | (go_at_call 24; clear k1; refine (hwA w13).mono ?_; rintro e w14 ⟨rfl, b14⟩; have c14 := c13.trans (b14.mono c13.size))
    | (go_at_call 24; clear k2; refine (hwB w14).mono ?_; rintro e w15 ⟨rfl, b15⟩; have c15 := c14.trans (b15.mono c14.size))
    | (go_at_call 24; clear k3; refine (hwC w15).mono ?_; rintro e w16 ⟨rfl, b16⟩; have c16 := c15.trans (b16.mono c15.size))
    | (go_at_call 24; refine (hwD w16).mono ?_; rintro e w17 ⟨rfl, b17⟩; have c17 := c16.trans (b17.mono c16.size)))
  go_ret
  exact ⟨rfl, c17⟩
end Go.Proofs.Ytkhnfmdhdfpdhaa
