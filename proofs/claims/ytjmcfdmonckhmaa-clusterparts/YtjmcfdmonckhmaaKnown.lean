/-
  What is proved here: the chapter's examples are answered as it says.
-/
import Derived.Test.YtjmcfdmonckhmaaWalkH
namespace Go.Proofs.Ytjmcfdmonckhmaa
open Go.RowKit Go.Shelf

theorem eq_below {f : Nat} {xs : Array Value} {w : World} {v : Value} (h : Calls Try.prog f xs w fun e w' => e = .returned v ∧ w' = w) : Calls Try.prog f xs w fun e w' => e = .returned v ∧ Below w.heap.size w w' :=
  h.mono fun _ _ ⟨h1, h2⟩ => ⟨h1, h2 ▸ Below.refl _ _⟩
def abT : ByteArray := { data := #[97, 94, 98] }
theorem ab_ok : wrongI abT = 0 := wrong_ok (by decide) (fun k hk => by
  have h7 : abT.size = 3 := rfl
  have : k = 0 ∨ k = 1 ∨ k = 2 := by omega
  rcases this with rfl | rfl | rfl <;> decide)
theorem ab_num : num abT = 2 := by rfl
theorem nl_wrong : wrongI { data := #[10] } = 4 := wrong_byte (by decide) (k := 0) (by decide) (by decide)
theorem split_nl (w : World) : Calls Try.prog 8 #[.string { data := #[10] }] w fun e w' => e = .returned (.tuple #[.slice none 0 0, .int .i64 4]) ∧ Below w.heap.size w w' := by
  have := split_no { data := #[10] } (by rw [nl_wrong]; decide) w
  rw [nl_wrong] at this
  exact eq_below this
theorem long_k (w : World) : Calls Try.prog 20 #[.int .i64 4097] w fun e w' => e = .returned (.string (longT 4097)) ∧ Below w.heap.size w w' := long_any 4097 (by decide) w
theorem split_long (w : World) : Calls Try.prog 8 #[.string (longT 4097)] w fun e w' => e = .returned (.tuple #[.slice none 0 0, .int .i64 3]) ∧ Below w.heap.size w w' := by
  have := split_no (longT 4097) (by rw [longT_wrong]; decide) w
  rw [longT_wrong] at this
  exact eq_below this
theorem start1 (w : World) : Calls Try.prog 12 #[.string { data := #[97, 94, 98] }, .int .i64 1] w fun e w' => e = .returned (.tuple #[.int .i64 0, .int .i64 0]) ∧ Below w.heap.size w w' := start_ok abT ab_ok 1 0 (by rw [ab_num]; decide) (by decide) (by decide) w
theorem start3 (w : World) : Calls Try.prog 12 #[.string { data := #[97, 94, 98] }, .int .i64 3] w fun e w' => e = .returned (.tuple #[.int .i64 0, .int .i64 5]) ∧ Below w.heap.size w w' := by
  have e : placeI abT 3 ((abT.size : Int) - 1) = 5 := by unfold placeI; rw [if_pos ab_ok]; rfl
  have := start_no abT (by decide) 3 (by rw [e]; decide) w
  rw [e] at this
  exact this
theorem next0 (w : World) : Calls Try.prog 14 #[.string { data := #[97, 94, 98] }, .int .i64 0] w fun e w' => e = .returned (.tuple #[.int .i64 2, .int .i64 0]) ∧ Below w.heap.size w w' := next_ok abT ab_ok 0 0 (by decide) (by decide) (by decide) (by decide) w
theorem next1 (w : World) : Calls Try.prog 14 #[.string { data := #[97, 94, 98] }, .int .i64 1] w fun e w' => e = .returned (.tuple #[.int .i64 2, .int .i64 0]) ∧ Below w.heap.size w w' := next_ok abT ab_ok 1 0 (by decide) (by decide) (by decide) (by decide) w
theorem next3 (w : World) : Calls Try.prog 14 #[.string { data := #[97, 94, 98] }, .int .i64 3] w fun e w' => e = .returned (.tuple #[.int .i64 3, .int .i64 0]) ∧ Below w.heap.size w w' := next_ok abT ab_ok 3 2 (by decide) (by decide) (by decide) (by decide) w
theorem prev3 (w : World) : Calls Try.prog 16 #[.string { data := #[97, 94, 98] }, .int .i64 3] w fun e w' => e = .returned (.tuple #[.int .i64 2, .int .i64 0]) ∧ Below w.heap.size w w' := prev_ok abT ab_ok 3 1 (by decide) (by decide) (by decide) w
theorem prev1 (w : World) : Calls Try.prog 16 #[.string { data := #[97, 94, 98] }, .int .i64 1] w fun e w' => e = .returned (.tuple #[.int .i64 0, .int .i64 0]) ∧ Below w.heap.size w w' := prev_ok abT ab_ok 1 0 (by decide) (by decide) (by decide) w
theorem bound1 (w : World) : Calls Try.prog 18 #[.string { data := #[97, 94, 98] }, .int .i64 1] w fun e w' => e = .returned (.bool false) ∧ Below w.heap.size w w' := by
  have e : bndI abT 1 = false := decide_eq_false (fun ⟨_, i, hi, he⟩ => by
    rw [ab_num] at hi
    have : i = 0 ∨ i = 1 ∨ i = 2 := by omega
    rcases this with rfl | rfl | rfl <;> exact absurd he (by decide))
  have := bound_any abT 1 w
  rw [e] at this
  exact this
theorem bound3 (w : World) : Calls Try.prog 18 #[.string { data := #[97, 94, 98] }, .int .i64 3] w fun e w' => e = .returned (.bool true) ∧ Below w.heap.size w w' := by
  have e : bndI abT 3 = true := decide_eq_true ⟨ab_ok, 2, by decide, by decide⟩
  have := bound_any abT 3 w
  rw [e] at this
  exact this
set_option maxRecDepth 100000 in
set_option maxHeartbeats 4000000 in
theorem known_any (w : World) : Calls Try.prog 5 #[] w fun e w' => e = .returned (.bool true) ∧ Below w.heap.size w w' := by
  go_enter Try.func5, Try.ntmps5
  have C0 := Below.refl w.heap.size w
  go_wp2_with fail
  refine (split_nl _).mono ?_
  rintro e w1 ⟨rfl, B1⟩
  have C1 := C0.trans (B1.mono C0.size)
  clear B1 C0
  go_wp2_with fail
  refine (long_k _).mono ?_
  rintro e w2 ⟨rfl, B2⟩
  have C2 := C1.trans (B2.mono C1.size)
  clear B2 C1
  go_wp2_with fail
  refine (split_long _).mono ?_
  rintro e w3 ⟨rfl, B3⟩
  have C3 := C2.trans (B3.mono C2.size)
  clear B3 C2
  go_wp2_with fail
  refine (start1 _).mono ?_
  rintro e w4 ⟨rfl, B4⟩
  have C4 := C3.trans (B4.mono C3.size)
  clear B4 C3
  go_wp2_with fail
  refine (start3 _).mono ?_
  rintro e w5 ⟨rfl, B5⟩
  have C5 := C4.trans (B5.mono C4.size)
  clear B5 C4
  go_wp2_with fail
  refine (next0 _).mono ?_
  rintro e w6 ⟨rfl, B6⟩
  have C6 := C5.trans (B6.mono C5.size)
  clear B6 C5
  go_wp2_with fail
  refine (next1 _).mono ?_
  rintro e w7 ⟨rfl, B7⟩
  have C7 := C6.trans (B7.mono C6.size)
  clear B7 C6
  go_wp2_with fail
  refine (next3 _).mono ?_
  rintro e w8 ⟨rfl, B8⟩
  have C8 := C7.trans (B8.mono C7.size)
  clear B8 C7
  go_wp2_with fail
  refine (prev3 _).mono ?_
  rintro e w9 ⟨rfl, B9⟩
  have C9 := C8.trans (B9.mono C8.size)
  clear B9 C8
  go_wp2_with fail
  refine (prev1 _).mono ?_
  rintro e w10 ⟨rfl, B10⟩
  have C10 := C9.trans (B10.mono C9.size)
  clear B10 C9
  go_wp2_with fail
  refine (awake_any _).mono ?_
  rintro e w11 ⟨rfl, B11⟩
  have C11 := C10.trans (B11.mono C10.size)
  clear B11 C10
  go_wp2_with fail
  refine (eq_below (is_yes 0 _)).mono ?_
  rintro e w12 ⟨rfl, B12⟩
  have C12 := C11.trans (B12.mono C11.size)
  clear B12 C11
  go_wp2_with fail
  refine (eq_below (is_yes 2 _)).mono ?_
  rintro e w13 ⟨rfl, B13⟩
  have C13 := C12.trans (B13.mono C12.size)
  clear B13 C12
  go_wp2_with fail
  refine (eq_below (is_yes 2 _)).mono ?_
  rintro e w14 ⟨rfl, B14⟩
  have C14 := C13.trans (B14.mono C13.size)
  clear B14 C13
  go_wp2_with fail
  refine (eq_below (is_yes 3 _)).mono ?_
  rintro e w15 ⟨rfl, B15⟩
  have C15 := C14.trans (B15.mono C14.size)
  clear B15 C14
  go_wp2_with fail
  refine (eq_below (is_yes 2 _)).mono ?_
  rintro e w16 ⟨rfl, B16⟩
  have C16 := C15.trans (B16.mono C15.size)
  clear B16 C15
  go_wp2_with fail
  refine (eq_below (is_yes 0 _)).mono ?_
  rintro e w17 ⟨rfl, B17⟩
  have C17 := C16.trans (B17.mono C16.size)
  clear B17 C16
  go_wp2_with fail
  refine (bound1 _).mono ?_
  rintro e w18 ⟨rfl, B18⟩
  have C18 := C17.trans (B18.mono C17.size)
  clear B18 C17
  go_wp2_with fail
  refine (bound3 _).mono ?_
  rintro e w19 ⟨rfl, B19⟩
  have C19 := C18.trans (B19.mono C18.size)
  clear B19 C18
  go_wp2_with fail
  go_ret
  exact ⟨rfl, C19⟩
end Go.Proofs.Ytjmcfdmonckhmaa
