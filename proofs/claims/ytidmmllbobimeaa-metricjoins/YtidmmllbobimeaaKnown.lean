/-
  What is proved here: MetricKnown answers true.
-/
import Derived.Test.YtidmmllbobimeaaExD
import Derived.Test.YtidmmllbobimeaaMetG
namespace Go.Proofs.Ytidmmllbobimeaa
open Go.RowKit Go.Shelf

def wit : ByteArray := { data := #[87, 105, 116] }
theorem wit8 : wVal wit 8 = 13 ∧ wErr wit 8 = 0 := by decide +kernel
theorem wit10 : wVal wit 10 = 15 ∧ wErr wit 10 = 0 := by decide +kernel
theorem none0 : wVal { data := #[] } 0 = 0 ∧ wErr { data := #[] } 0 = 5 := by decide +kernel
theorem k1 : kVal 65 86 16 = -2 ∧ kErr 16 = 0 := by decide +kernel
theorem k2 : kVal 114 46 16 = -1 ∧ kErr 16 = 0 := by decide +kernel
theorem k3 : kVal 97 98 16 = 0 ∧ kErr 16 = 0 := by decide +kernel
theorem k4 : kVal 65 86 0 = 0 ∧ kErr 0 = 5 := by decide +kernel
theorem n02 : natV exM 0 2 = 22 ∧ natE exM 0 2 = 0 := by decide +kernel
theorem n12 : natV exM 1 2 = 12 ∧ natE exM 1 2 = 0 := by decide +kernel
def fldP (N : Nat) : Pa := { t := { data := #[3] }, sv := .slice (some ⟨N, 0, none⟩) 1 1, p := plainP 8, lb := { data := #[] }, mv := .slice none 0 0, sp := [⟨1, 0, 0, 0⟩], ms := [] }
def bareP : Pa := { t := { data := #[97] }, sv := .slice none 0 0, p := plainP 8, lb := { data := #[] }, mv := .slice none 0 0, sp := [], ms := [] }
theorem fld_chk (N : Nat) : chkI (fldP N) = 4 := by
  have e : chkI (fldP N) = chkI (fldP 0) := rfl
  rw [e]
  decide +kernel
theorem bare_chk : chkI bareP = 2 := by decide +kernel
theorem bare_at (w : World) : PaAt w bareP := ⟨RecAt.nil w 0, ⟨⟨none, 0, rfl, .inl rfl⟩, fun a n c e => by cases e; exact Nat.le_refl _⟩, by show 0 ≤ _ ∧ 0 ≤ _; omega⟩

set_option maxRecDepth 100000 in
set_option maxHeartbeats 4000000 in
theorem known_any (w : World) : Calls Try.prog 6 #[] w fun e w' => e = .returned (.bool true) ∧ Below w.heap.size w w' := by
  have e1 : ∀ W : World, Calls Try.prog 13 #[.int .u8 105] W fun e w' => e = .returned (.int .i64 2) ∧ w' = W := em_any 105
  have e2 : ∀ W : World, Calls Try.prog 13 #[.int .u8 109] W fun e w' => e = .returned (.int .i64 7) ∧ w' = W := em_any 109
  have e3 : ∀ W : World, Calls Try.prog 13 #[.int .u8 77] W fun e w' => e = .returned (.int .i64 8) ∧ w' = W := em_any 77
  have e4 : ∀ W : World, Calls Try.prog 13 #[.int .u8 53] W fun e w' => e = .returned (.int .i64 5) ∧ w' = W := em_any 53
  have e5 : ∀ W : World, Calls Try.prog 13 #[.int .u8 10] W fun e w' => e = .returned (.int .i64 0) ∧ w' = W := em_any 10
  have w1 := Width_any wit 8
  rw [wit8.1, wit8.2] at w1
  have w2 := Width_any wit 10
  rw [wit10.1, wit10.2] at w2
  have w3 := Width_any { data := #[] } 0
  rw [none0.1, none0.2] at w3
  have q1 := Kern_any 65 86 16
  rw [k1.1, k1.2] at q1
  have q2 := Kern_any 114 46 16
  rw [k2.1, k2.2] at q2
  have q3 := Kern_any 97 98 16
  rw [k3.1, k3.2] at q3
  have q4 := Kern_any 65 86 0
  rw [k4.1, k4.2] at q4
  have hpl : ∀ W : World, Calls Try.prog 26 #[.int .i64 8] W fun e w' => e = .returned (.agg #[.int .i64 8, .int .i64 12, .int .i64 0, .int .i64 0, .int .i64 0, .int .i64 0, .int .i64 0, .int .i64 0, .int .i64 0, .int .i64 0, .int .i64 1, .int .i64 1, .int .i64 0, .int .i64 0, .int .i64 0, .int .i64 0, .int .i64 0]) ∧ Below W.heap.size W w' := plain_any 8
  have hbare := fun W : World => check_any bareP W (bare_at W)
  rw [bare_chk] at hbare
  go_enter Try.func6, Try.ntmps6
  go_wp2_with fail
  refine (awake_any w).mono ?_
  rintro e x1 ⟨rfl, B1⟩
  go_wp2_with fail
  refine (e1 _).mono ?_
  rintro e w' ⟨rfl, hww⟩
  subst w'
  go_wp2_with fail
  refine (e2 _).mono ?_
  rintro e w' ⟨rfl, hww⟩
  subst w'
  go_wp2_with fail
  refine (e3 _).mono ?_
  rintro e w' ⟨rfl, hww⟩
  subst w'
  go_wp2_with fail
  refine (e4 _).mono ?_
  rintro e w' ⟨rfl, hww⟩
  subst w'
  go_wp2_with fail
  refine (e5 _).mono ?_
  rintro e w' ⟨rfl, hww⟩
  subst w'
  go_wp2_with fail
  refine (w1 _).mono ?_
  rintro e w' ⟨rfl, hww⟩
  subst w'
  go_wp2_with fail
  refine (w2 _).mono ?_
  rintro e w' ⟨rfl, hww⟩
  subst w'
  go_wp2_with fail
  refine (w3 _).mono ?_
  rintro e w' ⟨rfl, hww⟩
  subst w'
  go_wp2_with fail
  refine (q1 _).mono ?_
  rintro e w' ⟨rfl, hww⟩
  subst w'
  go_wp2_with fail
  refine (q2 _).mono ?_
  rintro e w' ⟨rfl, hww⟩
  subst w'
  go_wp2_with fail
  refine (q3 _).mono ?_
  rintro e w' ⟨rfl, hww⟩
  subst w'
  go_wp2_with fail
  refine (q4 _).mono ?_
  rintro e w' ⟨rfl, hww⟩
  subst w'
  clear e1 e2 e3 e4 e5 w1 w2 w3 q1 q2 q3 q4
  go_wp2_with fail
  refine (example_any x1).mono ?_
  rintro e x2 ⟨N, rfl, hA, b2⟩
  have B2 := B1.trans (b2.mono B1.size)
  go_wp2_with fail
  refine (exMass N x2 hA).mono ?_
  rintro e x3 ⟨v, rfl, hR, b3⟩
  have B3 := B2.trans (b3.mono B2.size)
  have hn1 := natural_any v exM (by decide) 0 2 x3 hR
  rw [n02.1, n02.2] at hn1
  go_wp2_with fail
  refine hn1.mono ?_
  rintro e x4 ⟨rfl, b4⟩
  have B4 := B3.trans (b4.mono B3.size)
  have hR4 := hR.below b4 (Nat.le_refl _)
  have hn2 := natural_any v exM (by decide) 1 2 x4 hR4
  rw [n12.1, n12.2] at hn2
  go_wp2_with fail
  refine hn2.mono ?_
  rintro e x5 ⟨rfl, b5⟩
  have B5 := B4.trans (b5.mono B4.size)
  clear hn1 hn2 hR hR4 hA
  go_wp2_with fail
  refine (hpl _).mono ?_
  rintro e x6 ⟨rfl, b6⟩
  have b5' := (Below.refl x5.heap.size x5).alloc (Nat.le_refl _) (.cells #[.int .i64 1, .int .i64 0, .int .i64 0, .int .i64 0] 51)
  have hr := rec_new (k := 4) spL_len x5 51 [⟨1, 0, 0, 0⟩]
  have hA6 : PaAt x6 (fldP x5.heap.size) := ⟨hr.below b6 (Nat.le_refl _), ⟨⟨none, 0, rfl, .inl rfl⟩, fun a n c e => by cases e; exact Nat.le_refl _⟩, by show 1 ≤ _ ∧ 0 ≤ _; omega⟩
  have B6 := (B5.trans (b5'.mono B5.size)).trans (b6.mono (B5.trans (b5'.mono B5.size)).size)
  have hc6 := check_any _ x6 hA6
  rw [fld_chk] at hc6
  go_wp2_with fail
  refine hc6.mono ?_
  rintro e x7 ⟨rfl, b7⟩
  have B7 := B6.trans (b7.mono B6.size)
  clear hc6 hA6 hr
  go_wp2_with fail
  refine (hpl _).mono ?_
  rintro e x8 ⟨rfl, b8⟩
  have B8 := B7.trans (b8.mono B7.size)
  go_wp2_with fail
  refine (hbare _).mono ?_
  rintro e x9 ⟨rfl, b9⟩
  have B9 := B8.trans (b9.mono B8.size)
  go_wp2_with fail
  go_ret
  exact ⟨rfl, B9⟩
end Go.Proofs.Ytidmmllbobimeaa
