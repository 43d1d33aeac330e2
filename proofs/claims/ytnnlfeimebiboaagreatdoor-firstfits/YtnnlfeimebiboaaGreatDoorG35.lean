/-
  What is proved here: what awake and FirstKnown of the law answer.
  What is proved here: FirstTells answers true.
  What is proved here: how lists of masses and paragraphs that are handed in look.
-/
import Derived.Test.YtnnlfeimebiboaaGreatDoorG34
import Derived.Test.YtnnlfeimebiboaaGreatDoorG20
import Derived.Test.YtnnlfeimebiboaaGreatDoorG33
import Derived.Test.YtnnlfeimebiboaaGreatDoorG25
import Derived.ProofKit
import Derived.OpenShut
import Derived.ChangeOld
import Derived.Below
import Derived.Deep.Slices
import Derived.SizedLaws
namespace Go.Proofs.YtnnlfeimebiboaaGreatDoor
open Go.RowKit Go.Shelf

def abcL : List It := [⟨1, 0, 1, 5, 0, 0, 0, false⟩, ⟨2, 1, 2, 3, 1, 1, 0, false⟩, ⟨1, 2, 3, 5, 0, 0, 0, false⟩, ⟨2, 3, 4, 3, 1, 1, 0, false⟩, ⟨1, 4, 5, 5, 0, 0, 0, false⟩]
theorem abc_ok (sv : Value) : chkI (ofP ⟨#[97, 32, 98, 32, 99]⟩ sv 0) = 0 := by kernel_rfl
theorem abc_its (sv : Value) : itemsOf (ofP ⟨#[97, 32, 98, 32, 99]⟩ sv 0) = abcL := by kernel_rfl
theorem none_ok : chkI (rawP ⟨#[]⟩) = 0 := by kernel_rfl
theorem none_its : itemsOf (rawP ⟨#[]⟩) = [] := by kernel_rfl
theorem of_abc (w : World) : Calls Tryz.prog 34 #[.string ⟨#[97, 32, 98, 32, 99]⟩] w fun e w' => (∃ a, e = .returned (.agg (paC a)) ∧ PaAt w' a ∧ chkI a = 0 ∧ a.p.p12 ≠ 1 ∧ ¬ 2 ≤ a.p.p14 ∧ itemsOf a = abcL) ∧ Below w.heap.size w w' := by
  refine (of_any ⟨#[97, 32, 98, 32, 99]⟩ (by decide) w).mono ?_
  rintro e w' ⟨⟨sv, rfl, h⟩, hb⟩
  exact ⟨⟨_, rfl, h, abc_ok sv, by show (0 : Int) ≠ 1; decide, by show ¬ (2 : Int) ≤ 0; decide, abc_its sv⟩, hb⟩
theorem of_empty (w : World) : Calls Tryz.prog 34 #[.string ⟨#[]⟩] w fun e w' => (∃ a, e = .returned (.agg (paC a)) ∧ PaAt w' a ∧ chkI a = 0 ∧ a.p.p12 ≠ 1 ∧ ¬ 2 ≤ a.p.p14 ∧ itemsOf a = []) ∧ Below w.heap.size w w' := by
  refine (of_none ⟨#[]⟩ (by decide) w).mono ?_
  rintro e w' ⟨⟨rfl, h⟩, hb⟩
  exact ⟨⟨_, rfl, h, none_ok, by show (0 : Int) ≠ 1; decide, by show ¬ (2 : Int) ≤ 0; decide, none_its⟩, hb⟩
theorem ls_ex0 : lsL abcL [] ⟨0, 13⟩ = [⟨0, 3, false, false, 13⟩, ⟨4, 5, false, false, 5⟩] := by kernel_rfl
theorem br_ex0 : brE abcL [] ⟨0, 13⟩ = 0 := by kernel_rfl
theorem lines_ex0 (W : World) : Calls Tryz.prog 18 #[.string ⟨#[97, 32, 98, 32, 99]⟩, .slice none 0 0, .agg #[.int .i64 0, .int .i64 13], .slice (some ⟨W.heap.size, 0, none⟩) 2 2] (W.alloc (.cells #[.int .i64 0, .int .i64 3, .bool false, .bool false, .int .i64 13, .int .i64 4, .int .i64 5, .bool false, .bool false, .int .i64 5] 41)) fun e w' => e = .returned (.bool true) ∧ Below W.heap.size W w' := by
  have hb := (Below.refl W.heap.size W).alloc (Nat.le_refl _) (.cells #[.int .i64 0, .int .i64 3, .bool false, .bool false, .int .i64 13, .int .i64 4, .int .i64 5, .bool false, .bool false, .int .i64 5] 41)
  have hV2 : SlsAt (W.alloc (.cells #[.int .i64 0, .int .i64 3, .bool false, .bool false, .int .i64 13, .int .i64 4, .int .i64 5, .bool false, .bool false, .int .i64 5] 41)) (.slice none 0 0) [] := RecAt.nil _ _
  have hU : PcsAt (W.alloc (.cells #[.int .i64 0, .int .i64 3, .bool false, .bool false, .int .i64 13, .int .i64 4, .int .i64 5, .bool false, .bool false, .int .i64 5] 41)) (.slice (some ⟨W.heap.size, 0, none⟩) 2 2) [⟨0, 3, false, false, 13⟩, ⟨4, 5, false, false, 5⟩] := rec_new pcL_len W 41 [⟨0, 3, false, false, 13⟩, ⟨4, 5, false, false, 5⟩]
  refine (lines_yes ⟨#[97, 32, 98, 32, 99]⟩ (.slice none 0 0) (.slice (some ⟨W.heap.size, 0, none⟩) 2 2) [] ⟨0, 13⟩ abcL _ (by decide) hV2 (by rw [ls_ex0]; exact hU) (by decide) br_ex0 of_abc).mono ?_
  rintro e w' ⟨rfl, h⟩
  exact ⟨rfl, hb.trans (h.mono hb.size)⟩
theorem ls_ex1 : lsL abcL [] ⟨0, 12⟩ = [⟨0, 1, false, false, 5⟩, ⟨2, 3, false, false, 5⟩, ⟨4, 5, false, false, 5⟩] := by kernel_rfl
theorem br_ex1 : brE abcL [] ⟨0, 12⟩ = 0 := by kernel_rfl
theorem lines_ex1 (W : World) : Calls Tryz.prog 18 #[.string ⟨#[97, 32, 98, 32, 99]⟩, .slice none 0 0, .agg #[.int .i64 0, .int .i64 12], .slice (some ⟨W.heap.size, 0, none⟩) 3 3] (W.alloc (.cells #[.int .i64 0, .int .i64 1, .bool false, .bool false, .int .i64 5, .int .i64 2, .int .i64 3, .bool false, .bool false, .int .i64 5, .int .i64 4, .int .i64 5, .bool false, .bool false, .int .i64 5] 41)) fun e w' => e = .returned (.bool true) ∧ Below W.heap.size W w' := by
  have hb := (Below.refl W.heap.size W).alloc (Nat.le_refl _) (.cells #[.int .i64 0, .int .i64 1, .bool false, .bool false, .int .i64 5, .int .i64 2, .int .i64 3, .bool false, .bool false, .int .i64 5, .int .i64 4, .int .i64 5, .bool false, .bool false, .int .i64 5] 41)
  have hV2 : SlsAt (W.alloc (.cells #[.int .i64 0, .int .i64 1, .bool false, .bool false, .int .i64 5, .int .i64 2, .int .i64 3, .bool false, .bool false, .int .i64 5, .int .i64 4, .int .i64 5, .bool false, .bool false, .int .i64 5] 41)) (.slice none 0 0) [] := RecAt.nil _ _
  have hU : PcsAt (W.alloc (.cells #[.int .i64 0, .int .i64 1, .bool false, .bool false, .int .i64 5, .int .i64 2, .int .i64 3, .bool false, .bool false, .int .i64 5, .int .i64 4, .int .i64 5, .bool false, .bool false, .int .i64 5] 41)) (.slice (some ⟨W.heap.size, 0, none⟩) 3 3) [⟨0, 1, false, false, 5⟩, ⟨2, 3, false, false, 5⟩, ⟨4, 5, false, false, 5⟩] := rec_new pcL_len W 41 [⟨0, 1, false, false, 5⟩, ⟨2, 3, false, false, 5⟩, ⟨4, 5, false, false, 5⟩]
  refine (lines_yes ⟨#[97, 32, 98, 32, 99]⟩ (.slice none 0 0) (.slice (some ⟨W.heap.size, 0, none⟩) 3 3) [] ⟨0, 12⟩ abcL _ (by decide) hV2 (by rw [ls_ex1]; exact hU) (by decide) br_ex1 of_abc).mono ?_
  rintro e w' ⟨rfl, h⟩
  exact ⟨rfl, hb.trans (h.mono hb.size)⟩
theorem ls_ex2 : lsL abcL [⟨0, 5⟩] ⟨0, 20⟩ = [⟨0, 1, false, false, 5⟩, ⟨2, 5, false, false, 13⟩] := by kernel_rfl
theorem br_ex2 : brE abcL [⟨0, 5⟩] ⟨0, 20⟩ = 0 := by kernel_rfl
theorem lines_ex2 (W : World) : Calls Tryz.prog 18 #[.string ⟨#[97, 32, 98, 32, 99]⟩, .slice (some ⟨W.heap.size, 0, none⟩) 1 1, .agg #[.int .i64 0, .int .i64 20], .slice (some ⟨W.heap.size + 1, 0, none⟩) 2 2] ((W.alloc (.cells #[.int .i64 0, .int .i64 5] 25)).alloc (.cells #[.int .i64 0, .int .i64 1, .bool false, .bool false, .int .i64 5, .int .i64 2, .int .i64 5, .bool false, .bool false, .int .i64 13] 41)) fun e w' => e = .returned (.bool true) ∧ Below W.heap.size W w' := by
  have hb := below2 W (.cells #[.int .i64 0, .int .i64 5] 25) (.cells #[.int .i64 0, .int .i64 1, .bool false, .bool false, .int .i64 5, .int .i64 2, .int .i64 5, .bool false, .bool false, .int .i64 13] 41)
  have hV : SlsAt (W.alloc (.cells #[.int .i64 0, .int .i64 5] 25)) (.slice (some ⟨W.heap.size, 0, none⟩) 1 1) [⟨0, 5⟩] := rec_new slL_len W 25 [⟨0, 5⟩]
  have hU : PcsAt ((W.alloc (.cells #[.int .i64 0, .int .i64 5] 25)).alloc (.cells #[.int .i64 0, .int .i64 1, .bool false, .bool false, .int .i64 5, .int .i64 2, .int .i64 5, .bool false, .bool false, .int .i64 13] 41)) (.slice (some ⟨W.heap.size + 1, 0, none⟩) 2 2) [⟨0, 1, false, false, 5⟩, ⟨2, 5, false, false, 13⟩] := by
    have := rec_new pcL_len (W.alloc (.cells #[.int .i64 0, .int .i64 5] 25)) 41 [⟨0, 1, false, false, 5⟩, ⟨2, 5, false, false, 13⟩]
    rw [World.size_alloc] at this
    exact this
  have hV2 := hV.below ((Below.refl _ _).alloc (Nat.le_refl _) (.cells #[.int .i64 0, .int .i64 1, .bool false, .bool false, .int .i64 5, .int .i64 2, .int .i64 5, .bool false, .bool false, .int .i64 13] 41)) (Nat.le_refl _)
  refine (lines_yes ⟨#[97, 32, 98, 32, 99]⟩ (.slice (some ⟨W.heap.size, 0, none⟩) 1 1) (.slice (some ⟨W.heap.size + 1, 0, none⟩) 2 2) [⟨0, 5⟩] ⟨0, 20⟩ abcL _ (by decide) hV2 (by rw [ls_ex2]; exact hU) (by decide) br_ex2 of_abc).mono ?_
  rintro e w' ⟨rfl, h⟩
  exact ⟨rfl, hb.trans (h.mono hb.size)⟩
theorem ls_ex3 : lsL abcL [] ⟨0, 2⟩ = [⟨0, 1, true, false, 5⟩, ⟨2, 3, true, false, 5⟩, ⟨4, 5, true, false, 5⟩] := by kernel_rfl
theorem br_ex3 : brE abcL [] ⟨0, 2⟩ = 0 := by kernel_rfl
theorem lines_ex3 (W : World) : Calls Tryz.prog 18 #[.string ⟨#[97, 32, 98, 32, 99]⟩, .slice none 0 0, .agg #[.int .i64 0, .int .i64 2], .slice (some ⟨W.heap.size, 0, none⟩) 3 3] (W.alloc (.cells #[.int .i64 0, .int .i64 1, .bool true, .bool false, .int .i64 5, .int .i64 2, .int .i64 3, .bool true, .bool false, .int .i64 5, .int .i64 4, .int .i64 5, .bool true, .bool false, .int .i64 5] 41)) fun e w' => e = .returned (.bool true) ∧ Below W.heap.size W w' := by
  have hb := (Below.refl W.heap.size W).alloc (Nat.le_refl _) (.cells #[.int .i64 0, .int .i64 1, .bool true, .bool false, .int .i64 5, .int .i64 2, .int .i64 3, .bool true, .bool false, .int .i64 5, .int .i64 4, .int .i64 5, .bool true, .bool false, .int .i64 5] 41)
  have hV2 : SlsAt (W.alloc (.cells #[.int .i64 0, .int .i64 1, .bool true, .bool false, .int .i64 5, .int .i64 2, .int .i64 3, .bool true, .bool false, .int .i64 5, .int .i64 4, .int .i64 5, .bool true, .bool false, .int .i64 5] 41)) (.slice none 0 0) [] := RecAt.nil _ _
  have hU : PcsAt (W.alloc (.cells #[.int .i64 0, .int .i64 1, .bool true, .bool false, .int .i64 5, .int .i64 2, .int .i64 3, .bool true, .bool false, .int .i64 5, .int .i64 4, .int .i64 5, .bool true, .bool false, .int .i64 5] 41)) (.slice (some ⟨W.heap.size, 0, none⟩) 3 3) [⟨0, 1, true, false, 5⟩, ⟨2, 3, true, false, 5⟩, ⟨4, 5, true, false, 5⟩] := rec_new pcL_len W 41 [⟨0, 1, true, false, 5⟩, ⟨2, 3, true, false, 5⟩, ⟨4, 5, true, false, 5⟩]
  refine (lines_yes ⟨#[97, 32, 98, 32, 99]⟩ (.slice none 0 0) (.slice (some ⟨W.heap.size, 0, none⟩) 3 3) [] ⟨0, 2⟩ abcL _ (by decide) hV2 (by rw [ls_ex3]; exact hU) (by decide) br_ex3 of_abc).mono ?_
  rintro e w' ⟨rfl, h⟩
  exact ⟨rfl, hb.trans (h.mono hb.size)⟩
theorem ls_ex4 : lsL [] [] ⟨0, 2⟩ = [⟨0, 0, false, false, 0⟩] := by kernel_rfl
theorem br_ex4 : brE [] [] ⟨0, 2⟩ = 0 := by kernel_rfl
theorem lines_ex4 (W : World) : Calls Tryz.prog 18 #[.string ⟨#[]⟩, .slice none 0 0, .agg #[.int .i64 0, .int .i64 2], .slice (some ⟨W.heap.size, 0, none⟩) 1 1] (W.alloc (.cells #[.int .i64 0, .int .i64 0, .bool false, .bool false, .int .i64 0] 41)) fun e w' => e = .returned (.bool true) ∧ Below W.heap.size W w' := by
  have hb := (Below.refl W.heap.size W).alloc (Nat.le_refl _) (.cells #[.int .i64 0, .int .i64 0, .bool false, .bool false, .int .i64 0] 41)
  have hV2 : SlsAt (W.alloc (.cells #[.int .i64 0, .int .i64 0, .bool false, .bool false, .int .i64 0] 41)) (.slice none 0 0) [] := RecAt.nil _ _
  have hU : PcsAt (W.alloc (.cells #[.int .i64 0, .int .i64 0, .bool false, .bool false, .int .i64 0] 41)) (.slice (some ⟨W.heap.size, 0, none⟩) 1 1) [⟨0, 0, false, false, 0⟩] := rec_new pcL_len W 41 [⟨0, 0, false, false, 0⟩]
  refine (lines_yes ⟨#[]⟩ (.slice none 0 0) (.slice (some ⟨W.heap.size, 0, none⟩) 1 1) [] ⟨0, 2⟩ [] _ (by decide) hV2 (by rw [ls_ex4]; exact hU) (by decide) br_ex4 of_empty).mono ?_
  rintro e w' ⟨rfl, h⟩
  exact ⟨rfl, hb.trans (h.mono hb.size)⟩

set_option maxRecDepth 100000 in
set_option maxHeartbeats 4000000 in
theorem awake17 (w : World) : Calls Tryz.prog 17 #[] w fun e w' => e = .returned (.bool true) ∧ Below w.heap.size w w' := by
  have h0 : Hid (Calls Tryz.prog 18 #[.string ⟨#[97, 32, 98, 32, 99]⟩, .slice none 0 0, .agg #[.int .i64 0, .int .i64 13], .slice (some ⟨w.heap.size, 0, none⟩) 2 2] (w.alloc (.cells #[.int .i64 0, .int .i64 3, .bool false, .bool false, .int .i64 13, .int .i64 4, .int .i64 5, .bool false, .bool false, .int .i64 5] 41)) fun e w' => e = .returned (.bool true) ∧ Below w.heap.size w w') := lines_ex0 w
  go_enter Tryz.func17, Tryz.ntmps17
  go_wp2_with (go_at_call 18; refine h0.out.mono ?_; rintro e w2 ⟨rfl, hb2⟩)
  go_ret
  exact ⟨rfl, hb2⟩
set_option maxRecDepth 100000 in
set_option maxHeartbeats 4000000 in
theorem known4 (w : World) : Calls Tryz.prog 4 #[] w fun e w' => e = .returned (.bool true) ∧ Below w.heap.size w w' := by
  have h1 : Hid (∀ W, Calls Tryz.prog 18 #[.string ⟨#[97, 32, 98, 32, 99]⟩, .slice none 0 0, .agg #[.int .i64 0, .int .i64 12], .slice (some ⟨W.heap.size, 0, none⟩) 3 3] (W.alloc (.cells #[.int .i64 0, .int .i64 1, .bool false, .bool false, .int .i64 5, .int .i64 2, .int .i64 3, .bool false, .bool false, .int .i64 5, .int .i64 4, .int .i64 5, .bool false, .bool false, .int .i64 5] 41)) fun e w' => e = .returned (.bool true) ∧ Below W.heap.size W w') := lines_ex1
  have h2 : Hid (∀ W, Calls Tryz.prog 18 #[.string ⟨#[97, 32, 98, 32, 99]⟩, .slice (some ⟨W.heap.size, 0, none⟩) 1 1, .agg #[.int .i64 0, .int .i64 20], .slice (some ⟨W.heap.size + 1, 0, none⟩) 2 2] ((W.alloc (.cells #[.int .i64 0, .int .i64 5] 25)).alloc (.cells #[.int .i64 0, .int .i64 1, .bool false, .bool false, .int .i64 5, .int .i64 2, .int .i64 5, .bool false, .bool false, .int .i64 13] 41)) fun e w' => e = .returned (.bool true) ∧ Below W.heap.size W w') := lines_ex2
  have h3 : Hid (∀ W, Calls Tryz.prog 18 #[.string ⟨#[97, 32, 98, 32, 99]⟩, .slice none 0 0, .agg #[.int .i64 0, .int .i64 2], .slice (some ⟨W.heap.size, 0, none⟩) 3 3] (W.alloc (.cells #[.int .i64 0, .int .i64 1, .bool true, .bool false, .int .i64 5, .int .i64 2, .int .i64 3, .bool true, .bool false, .int .i64 5, .int .i64 4, .int .i64 5, .bool true, .bool false, .int .i64 5] 41)) fun e w' => e = .returned (.bool true) ∧ Below W.heap.size W w') := lines_ex3
  have h4 : Hid (∀ W, Calls Tryz.prog 18 #[.string ⟨#[]⟩, .slice none 0 0, .agg #[.int .i64 0, .int .i64 2], .slice (some ⟨W.heap.size, 0, none⟩) 1 1] (W.alloc (.cells #[.int .i64 0, .int .i64 0, .bool false, .bool false, .int .i64 0] 41)) fun e w' => e = .returned (.bool true) ∧ Below W.heap.size W w') := lines_ex4
  have h5 : Hid (∀ W, Calls Tryz.prog 17 #[] W fun e w' => e = .returned (.bool true) ∧ Below W.heap.size W w') := awake17
  go_enter Tryz.func4, Tryz.ntmps4
  go_wp2_with (first | (go_at_call 17; refine (h5.out _).mono ?_; rintro e w5 ⟨rfl, hb5⟩) | (go_at_call 18; first | (with_reducible refine (h1.out _).mono ?_; rintro e w2 ⟨rfl, hb2⟩) | (with_reducible refine (h2.out _).mono ?_; rintro e w3 ⟨rfl, hb3⟩) | (with_reducible refine (h3.out _).mono ?_; rintro e w4 ⟨rfl, hb4⟩) | (with_reducible refine (h4.out _).mono ?_; rintro e w6 ⟨rfl, hb6⟩)))
  go_ret
  have k3 := hb2.trans (hb3.mono hb2.size)
  have k4 := k3.trans (hb4.mono k3.size)
  have k5 := k4.trans (hb5.mono k4.size)
  exact ⟨rfl, k5.trans (hb6.mono k5.size)⟩
end Go.Proofs.YtnnlfeimebiboaaGreatDoor

namespace Go.Proofs.YtnnlfeimebiboaaGreatDoor
open Go.RowKit Go.Shelf

/-- The lines that Break tells, none with an error. -/
def brL (l : List It) (ss : List Sl) (r : Sl) : List Pc := if brE l ss r = 0 then lsL l ss r else []
theorem BrEnd.pcs {l : List It} {ss : List Sl} {r : Sl} {w : World} {e : Ending} {w' : World} (h : BrEnd l ss r w e w') : (∃ va vc, e = .returned (.tuple #[.slice va (brL l ss r).length vc, .int .i64 (brE l ss r)]) ∧ PcsAt w' (.slice va (brL l ss r).length vc) (brL l ss r)) ∧ Below w.heap.size w w' := by
  obtain ⟨⟨v, rfl, hv⟩, hb⟩ := h
  refine ⟨?_, hb⟩
  unfold brL
  rcases hv with ⟨h1, rfl⟩ | ⟨h1, h2⟩
  · rw [if_neg h1]
    exact ⟨none, 0, rfl, RecAt.nil _ _⟩
  · rw [if_pos h1]
    have h3 := h2
    obtain ⟨va, vc, rfl, -⟩ := h2.ex
    exact ⟨va, vc, rfl, h3⟩
theorem brL_len {l : List It} {ss : List Sl} {r : Sl} : (brL l ss r).length ≤ 9000 := by
  unfold brL
  split
  · rename_i h
    have hc : ckL l = 0 := by
      unfold brE at h
      split at h
      · rename_i h1; exact absurd h h1
      · rename_i h1; exact Decidable.not_not.1 h1
    have h8 := ck_len hc
    have := lsG_len (l := l) (ss := ss) (r := r) (l.length + 1) (sk l 0) 0 (sk_le (l.length + 1) 0 (by omega)).2
    show (lsG l ss r (l.length + 1) (sk l 0) 0).length ≤ 9000
    omega
  · simp
/-- What was lent, as it lies. -/
structure LT (l : List It) (ss : List Sl) (ga gb : Nat) (W : World) : Prop where
  li : IB W ga (l ++ lentL l.length)
  ls : SB2 W gb (ss ++ slentL ss.length)
theorem LT.next {l : List It} {ss : List Sl} {ga gb : Nat} {W W' : World} (h : LT l ss ga gb W) (hb : Below W.heap.size W W') : LT l ss ga gb W' := ⟨h.li.below hb h.li.lt, h.ls.below hb h.ls.lt⟩
theorem LT.its {l : List It} {ss : List Sl} {ga gb : Nat} {W : World} (h : LT l ss ga gb W) : ItsAt W (.slice (some ⟨ga, 0, none⟩) l.length (l.length + 3)) l := by
  have := h.li.its (n := l.length) (cap := l.length + 3) (by simp) (by omega)
  rwa [List.take_left] at this
theorem LT.sls {l : List It} {ss : List Sl} {ga gb : Nat} {W : World} (h : LT l ss ga gb W) : SlsAt W (.slice (some ⟨gb, 0, none⟩) ss.length (ss.length + 3)) ss := by
  have := h.ls.its (n := ss.length) (cap := ss.length + 3) (by simp) (by omega)
  rwa [List.take_left] at this

set_option maxRecDepth 100000 in
set_option maxHeartbeats 4000000 in
theorem tells_skip (v vs : Value) (l : List It) (ss : List Sl) (r : Sl) (n : Int) (w : World) (hS : ItsAt w v l) (hV : SlsAt w vs ss) (h : (400 < l.length ∧ l.length ≤ 8192) ∨ 9000 < l.length ∨ 300 < ss.length) :
    Calls Tryz.prog 3 #[v, vs, .agg (slL r).toArray, .int .i64 n] w fun e w' => e = .returned (.bool true) ∧ Below w.heap.size w w' := by
  obtain ⟨a, cap, rfl, -⟩ := hS.ex
  obtain ⟨a2, cap2, rfl, -⟩ := hV.ex
  have hB := (Below.refl w.heap.size w).alloc (Nat.le_refl _) (.cells #[.int .i64 r.x, .int .i64 r.w] 25)
  show Calls Tryz.prog 3 #[.slice a l.length cap, .slice a2 ss.length cap2, .agg #[.int .i64 r.x, .int .i64 r.w], .int .i64 n] w _
  clear hS hV
  generalize l.length = p at *
  generalize ss.length = q at *
  by_cases h1 : 400 < p
  · have h1' : (400 : Int) < p := by omega
    by_cases h2 : p ≤ 8192
    · have h2' : (p : Int) ≤ 8192 := by omega
      clear h h1 h2
      go_enter Tryz.func3, Tryz.ntmps3
      go_wp2_with fail
      go_ret
      exact ⟨rfl, hB⟩
    · have h2' : ¬ (p : Int) ≤ 8192 := by omega
      by_cases h3 : 9000 < p
      · have h3' : (9000 : Int) < p := by omega
        clear h h1 h2 h3
        go_enter Tryz.func3, Tryz.ntmps3
        go_wp2_with fail
        go_ret
        exact ⟨rfl, hB⟩
      · have h3' : ¬ (9000 : Int) < p := by omega
        have h4' : (300 : Int) < q := by omega
        clear h h1 h2 h3
        go_enter Tryz.func3, Tryz.ntmps3
        go_wp2_with fail
        go_ret
        exact ⟨rfl, hB⟩
  · have h1' : ¬ (400 : Int) < p := by omega
    have h3' : ¬ (9000 : Int) < p := by omega
    have h4' : (300 : Int) < q := by omega
    clear h h1
    go_enter Tryz.func3, Tryz.ntmps3
    go_wp2_with fail
    go_ret
    exact ⟨rfl, hB⟩

set_option maxRecDepth 100000 in
set_option maxHeartbeats 8000000 in
theorem tells_go (v vs : Value) (l : List It) (ss : List Sl) (r : Sl) (n : Int) (w : World) (hS : ItsAt w v l) (hV : SlsAt w vs ss) (h : ¬ ((400 < l.length ∧ l.length ≤ 8192) ∨ 9000 < l.length ∨ 300 < ss.length)) :
    Calls Tryz.prog 3 #[v, vs, .agg (slL r).toArray, .int .i64 n] w fun e w' => e = .returned (.bool true) ∧ Below w.heap.size w w' := by
  obtain ⟨a, cap, rfl, -⟩ := hS.ex
  obtain ⟨a2, cap2, rfl, -⟩ := hV.ex
  have hB := (Below.refl w.heap.size w).alloc (Nat.le_refl _) (.cells #[.int .i64 r.x, .int .i64 r.w] 25)
  have hS1 := hS.below hB (Nat.le_refl _)
  have hV1 := hV.below hB (Nat.le_refl _)
  have hD : (w.alloc (.cells #[.int .i64 r.x, .int .i64 r.w] 25)).heap[w.heap.size]? = some (.cells #[.int .i64 r.x, .int .i64 r.w] 25 (0, 0)) := World.alloc_heap_new w _
  have hlt : w.heap.size < (w.alloc (.cells #[.int .i64 r.x, .int .i64 r.w] 25)).heap.size := by simp
  have hl9 : l.length ≤ 9000 := by omega
  have hs3 : ss.length ≤ 300 := by omega
  have hBh : Hid (Below w.heap.size w (w.alloc (.cells #[.int .i64 r.x, .int .i64 r.w] 25))) := hB
  show Calls Tryz.prog 3 #[.slice a l.length cap, .slice a2 ss.length cap2, .agg #[.int .i64 r.x, .int .i64 r.w], .int .i64 n] w _
  generalize hwz : (w.alloc (.cells #[.int .i64 r.x, .int .i64 r.w] 25)) = wz at *
  have hrow : Hid (∀ W, Below wz.heap.size wz W → W.heap[w.heap.size]? = some (.cells #[.int .i64 r.x, .int .i64 r.w] 25 (0, 0))) := fun W hW => (hW.block _ hlt).trans hD
  have hcl : Hid (∀ W, Below wz.heap.size wz W → W.cell? ⟨w.heap.size, 0, none⟩ = some (.int .i64 r.x) ∧ W.cell? ⟨w.heap.size, 1, none⟩ = some (.int .i64 r.w)) := fun W hW => by
    have := (hW.block _ hlt).trans hD
    exact ⟨by rw [Lib.cell_of_heap this]; rfl, by rw [Lib.cell_of_heap this]; rfl⟩
  have f6 : Hid (Calls Tryz.prog 6 #[.slice a l.length cap] wz fun e w' => e = .returned (.slice (some ⟨wz.heap.size, 0, none⟩) l.length (l.length + 3)) ∧ Below wz.heap.size wz w' ∧ IB w' wz.heap.size (l ++ lentL l.length)) := ilent_any _ l hl9 wz hS1
  have f7 : Hid (∀ ga W, Below wz.heap.size wz W → IB W ga (l ++ lentL l.length) → Calls Tryz.prog 7 #[.slice a2 ss.length cap2] W fun e w' => (∃ gb, e = .returned (.slice (some ⟨gb, 0, none⟩) ss.length (ss.length + 3)) ∧ LT l ss ga gb w') ∧ Below wz.heap.size wz w') := fun ga W hW hi => by
    refine (slent_any _ ss (by omega) W (hV1.below hW (Nat.le_refl _))).mono ?_
    rintro e w' ⟨rfl, h1, h2⟩
    exact ⟨⟨_, rfl, hi.below h1 hi.lt, h2⟩, hW.trans (h1.mono hW.size)⟩
  have f8 : Hid (∀ ga gb W, Below wz.heap.size wz W → LT l ss ga gb W → Calls Tryz.prog 8 #[.slice (some ⟨ga, 0, none⟩) l.length (l.length + 3), .slice (some ⟨gb, 0, none⟩) ss.length (ss.length + 3), .agg #[.int .i64 r.x, .int .i64 r.w]] W fun e w' => (∃ va vc, e = .returned (.tuple #[.slice va (brL l ss r).length vc, .int .i64 (brE l ss r)]) ∧ PcsAt w' (.slice va (brL l ss r).length vc) (brL l ss r)) ∧ Below wz.heap.size wz w' ∧ LT l ss ga gb w') := fun ga gb W hW hT => by
    refine (break_any _ _ l ss r (by omega) W hT.its hT.sls).mono ?_
    intro e w' h
    obtain ⟨h1, h2⟩ := h.pcs
    exact ⟨h1, hW.trans (h2.mono hW.size), hT.next h2⟩
  have f9 : Hid (∀ ga gb W va vc, Below wz.heap.size wz W → LT l ss ga gb W → PcsAt W (.slice va (brL l ss r).length vc) (brL l ss r) → Calls Tryz.prog 9 #[.slice a l.length cap, .slice a2 ss.length cap2, .agg #[.int .i64 r.x, .int .i64 r.w]] W fun e w' => (∃ vb vd, e = .returned (.tuple #[.slice vb (brL l ss r).length vd, .int .i64 (brE l ss r)]) ∧ PcsAt w' (.slice vb (brL l ss r).length vd) (brL l ss r) ∧ PcsAt w' (.slice va (brL l ss r).length vc) (brL l ss r)) ∧ Below wz.heap.size wz w' ∧ LT l ss ga gb w') := fun ga gb W va vc hW hT hX => by
    refine (rbreak_any _ _ l ss r (by omega) W (hS1.below hW (Nat.le_refl _)) (hV1.below hW (Nat.le_refl _))).mono ?_
    intro e w' h
    obtain ⟨⟨vb, vd, h1, h3⟩, h2⟩ := h.pcs
    exact ⟨⟨vb, vd, h1, h3, hX.below h2 (Nat.le_refl _)⟩, hW.trans (h2.mono hW.size), hT.next h2⟩
  have hbL := brL_len (l := l) (ss := ss) (r := r)
  have f6r : Hid (∀ ga gb va vc vb vd w4, Below wz.heap.size wz w4 → LT l ss ga gb w4 → PcsAt w4 (.slice va (brL l ss r).length vc) (brL l ss r) → PcsAt w4 (.slice vb (brL l ss r).length vd) (brL l ss r) →
      (∀ W, Below w4.heap.size w4 W → W.heap[w.heap.size]? = some (.cells #[.int .i64 r.x, .int .i64 r.w] 25 (0, 0))) ∧
      Hid (∀ W, Below w4.heap.size w4 W → Calls Tryz.prog 10 #[.slice va (brL l ss r).length vc, .slice vb (brL l ss r).length vd] W fun e w' => e = .returned (.bool true) ∧ Below w4.heap.size w4 w') ∧
      Hid (∀ W, Below w4.heap.size w4 W → Calls Tryz.prog 11 #[.slice (some ⟨gb, 0, none⟩) ss.length (ss.length + 3), .agg #[.int .i64 r.x, .int .i64 r.w]] W fun e w' => e = .returned (.int .i64 (ckS ss r)) ∧ Below w4.heap.size w4 w') ∧
      Hid (∀ W, Below w4.heap.size w4 W → Calls Tryz.prog 12 #[.slice a2 ss.length cap2, .agg #[.int .i64 r.x, .int .i64 r.w]] W fun e w' => e = .returned (.int .i64 (ckS ss r)) ∧ Below w4.heap.size w4 w') ∧
      Hid (∀ W, Below w4.heap.size w4 W → Calls Tryz.prog 13 #[.slice (some ⟨gb, 0, none⟩) ss.length (ss.length + 3), .agg #[.int .i64 r.x, .int .i64 r.w], .int .i64 n] W fun e w' => e = .returned (.agg #[.int .i64 (slI ss r n).x, .int .i64 (slI ss r n).w]) ∧ Below w4.heap.size w4 w') ∧
      Hid (∀ W, Below w4.heap.size w4 W → Calls Tryz.prog 14 #[.slice a2 ss.length cap2, .agg #[.int .i64 r.x, .int .i64 r.w], .int .i64 n] W fun e w' => e = .returned (.agg #[.int .i64 (slI ss r n).x, .int .i64 (slI ss r n).w]) ∧ Below w4.heap.size w4 w')) := fun ga gb va vc vb vd w4 h4 hT hX hY => by
    have mk : ∀ {k : Nat} {args : Array Value} {res : Value} {W : World}, Below w4.heap.size w4 W → Calls Tryz.prog k args W (fun e w' => e = .returned res ∧ Below W.heap.size W w') → Calls Tryz.prog k args W (fun e w' => e = .returned res ∧ Below w4.heap.size w4 w') := fun hW hc => hc.mono fun e w' h => ⟨h.1, hW.trans (h.2.mono hW.size)⟩
    refine ⟨fun W hW => hrow.out W (h4.trans (hW.mono h4.size)), fun W hW => mk hW ?_, fun W hW => mk hW ?_, fun W hW => mk hW ?_, fun W hW => mk hW ?_, fun W hW => mk hW ?_⟩
    · exact samePieces_yes _ _ _ W (by omega) (hX.below hW (Nat.le_refl _)) (hY.below hW (Nat.le_refl _))
    · exact fcheck_any _ ss r (by omega) W (hT.next hW).sls
    · exact rfcheck_any _ ss r (by omega) W (hV1.below (h4.trans (hW.mono h4.size)) (Nat.le_refl _))
    · exact fslot_any _ ss r n (by omega) W (hT.next hW).sls
    · exact rfslot_any _ ss r n (by omega) W (hV1.below (h4.trans (hW.mono h4.size)) (Nat.le_refl _))
  have f15 : Hid (∀ ga gb W, Below wz.heap.size wz W → LT l ss ga gb W → Calls Tryz.prog 15 #[.slice (some ⟨ga, 0, none⟩) l.length (l.length + 3), .slice a l.length cap] W fun e w' => e = .returned (.bool true) ∧ Below wz.heap.size wz w' ∧ LT l ss ga gb w') := fun ga gb W hW hT => by
    refine (ikept_any ga _ l hl9 W hT.li (hS1.below hW (Nat.le_refl _))).mono ?_
    rintro e w' ⟨rfl, h2⟩
    exact ⟨rfl, hW.trans (h2.mono hW.size), hT.next h2⟩
  have f16 : Hid (∀ ga gb W, Below wz.heap.size wz W → LT l ss ga gb W → Calls Tryz.prog 16 #[.slice (some ⟨gb, 0, none⟩) ss.length (ss.length + 3), .slice a2 ss.length cap2] W fun e w' => e = .returned (.bool true) ∧ Below wz.heap.size wz w') := fun ga gb W hW hT => by
    refine (skept_any gb _ ss (by omega) W hT.ls (hV1.below hW (Nat.le_refl _))).mono ?_
    rintro e w' ⟨rfl, h2⟩
    exact ⟨rfl, hW.trans (h2.mono hW.size)⟩
  have f17 : Hid (∀ W, Below wz.heap.size wz W → Calls Tryz.prog 17 #[] W fun e w' => e = .returned (.bool true) ∧ Below wz.heap.size wz w') := fun W hW => by
    refine (awake17 W).mono ?_
    rintro e w' ⟨rfl, h2⟩
    exact ⟨rfl, hW.trans (h2.mono hW.size)⟩
  have hLTn : Hid (∀ ga gb w4 W, LT l ss ga gb w4 → Below w4.heap.size w4 W → LT l ss ga gb W) := fun ga gb w4 W h1 h2 => h1.next h2
  clear hS hV hS1 hV1 hD hlt hB hrow
  generalize brL l ss r = RL at *
  generalize brE l ss r = br at *
  generalize ckS ss r = ck at *
  generalize (slI ss r n).x = qx at *
  generalize (slI ss r n).w = qw at *
  have g3 : ¬ (9000 : Int) < l.length := by omega
  have g4 : ¬ (300 : Int) < ss.length := by omega
  have hlh : Hid (¬ ((400 < l.length ∧ l.length ≤ 8192) ∨ 9000 < l.length ∨ 300 < ss.length)) := h
  clear h
  go_enter Tryz.func3, Tryz.ntmps3
  by_cases g1 : 400 < l.length
  · have g1' : (400 : Int) < l.length := by omega
    have g2' : ¬ (l.length : Int) ≤ 8192 := by have := hlh.out; omega
    clear g1
    go_wp2_with (first | (go_at_call 6; refine f6.out.mono ?_; rintro e w1 ⟨rfl, hb1, hi1⟩; replace hi1 : Hid _ := hi1) | (go_at_call 7; refine (f7.out _ w1 hb1 hi1.out).mono ?_; rintro e w2 ⟨⟨gb, rfl, hT2⟩, hb2⟩; obtain ⟨x1, x2⟩ := hcl.out w2 hb2) | (go_at_call 8; refine (f8.out _ gb w2 hb2 hT2).mono ?_; rintro e w3 ⟨⟨va, vc, rfl, hX3⟩, hb3, hT3⟩; obtain ⟨y1, y2⟩ := hcl.out w3 hb3; replace hX3 : Hid _ := hX3) | (go_at_call 9; refine (f9.out _ gb w3 va vc hb3 hT3 hX3.out).mono ?_; rintro e w4 ⟨⟨vb, vd, rfl, hY4, hX4⟩, hb4, hT4⟩; replace hX4 : Hid _ := hX4; replace hY4 : Hid _ := hY4))
    obtain ⟨k0, k10, k11, k12, k13, k14⟩ := f6r.out _ gb va vc vb vd w4 hb4 hT4 hX4.out hY4.out
    refine te_r6 _ (fun _ _ _ _ _ h => h) _ _ (fun W => Below w4.heap.size w4 W) w.heap.size r.x r.w qx qw n br ck a2 _ _ _ _ _ _ _ _ _ _ _ w4 ⟨rfl, rfl, rfl, Nat.le_refl _, fun _ _ => rfl⟩ k0 k10 k11 k12 k13 k14 ?_
    intro w5 hS5 u51 u52 u53 u54 u55 u56 u57 u58 u59 u60 u61 u62 u63 u64 u65 u66 u67 u68 u69 u70 u71 u72 u73 u74 u75 u76 u77 u78
    have hb5 := hb4.trans (hS5.mono hb4.size)
    have hT5 := hLTn.out _ gb w4 w5 hT4 hS5
    unfold fr3
    clear hS5 k0 k10 k11 k12 k13 k14 f6r hX4 hY4 hX3
    go_wp2_with (first | (go_at_call 15; refine (f15.out _ gb w5 hb5 hT5).mono ?_; rintro e w6 ⟨rfl, hb6, hT6⟩) | (go_at_call 16; refine (f16.out _ gb w6 hb6 hT6).mono ?_; rintro e w7 ⟨rfl, hb7⟩) | (go_at_call 17; refine (f17.out w7 hb7).mono ?_; rintro e w8 ⟨rfl, hb8⟩))
    go_ret
    exact ⟨rfl, hBh.out.trans (hb8.mono hBh.out.size)⟩
  · have g1' : ¬ (400 : Int) < l.length := by omega
    clear g1
    go_wp2_with (first | (go_at_call 6; refine f6.out.mono ?_; rintro e w1 ⟨rfl, hb1, hi1⟩; replace hi1 : Hid _ := hi1) | (go_at_call 7; refine (f7.out _ w1 hb1 hi1.out).mono ?_; rintro e w2 ⟨⟨gb, rfl, hT2⟩, hb2⟩; obtain ⟨x1, x2⟩ := hcl.out w2 hb2) | (go_at_call 8; refine (f8.out _ gb w2 hb2 hT2).mono ?_; rintro e w3 ⟨⟨va, vc, rfl, hX3⟩, hb3, hT3⟩; obtain ⟨y1, y2⟩ := hcl.out w3 hb3; replace hX3 : Hid _ := hX3) | (go_at_call 9; refine (f9.out _ gb w3 va vc hb3 hT3 hX3.out).mono ?_; rintro e w4 ⟨⟨vb, vd, rfl, hY4, hX4⟩, hb4, hT4⟩; replace hX4 : Hid _ := hX4; replace hY4 : Hid _ := hY4))
    obtain ⟨k0, k10, k11, k12, k13, k14⟩ := f6r.out _ gb va vc vb vd w4 hb4 hT4 hX4.out hY4.out
    refine te_r6 _ (fun _ _ _ _ _ h => h) _ _ (fun W => Below w4.heap.size w4 W) w.heap.size r.x r.w qx qw n br ck a2 _ _ _ _ _ _ _ _ _ _ _ w4 ⟨rfl, rfl, rfl, Nat.le_refl _, fun _ _ => rfl⟩ k0 k10 k11 k12 k13 k14 ?_
    intro w5 hS5 u51 u52 u53 u54 u55 u56 u57 u58 u59 u60 u61 u62 u63 u64 u65 u66 u67 u68 u69 u70 u71 u72 u73 u74 u75 u76 u77 u78
    have hb5 := hb4.trans (hS5.mono hb4.size)
    have hT5 := hLTn.out _ gb w4 w5 hT4 hS5
    unfold fr3
    clear hS5 k0 k10 k11 k12 k13 k14 f6r hX4 hY4 hX3
    go_wp2_with (first | (go_at_call 15; refine (f15.out _ gb w5 hb5 hT5).mono ?_; rintro e w6 ⟨rfl, hb6, hT6⟩) | (go_at_call 16; refine (f16.out _ gb w6 hb6 hT6).mono ?_; rintro e w7 ⟨rfl, hb7⟩) | (go_at_call 17; refine (f17.out w7 hb7).mono ?_; rintro e w8 ⟨rfl, hb8⟩))
    go_ret
    exact ⟨rfl, hBh.out.trans (hb8.mono hBh.out.size)⟩
theorem tells_any (v vs : Value) (l : List It) (ss : List Sl) (r : Sl) (n : Int) (w : World) (hS : ItsAt w v l) (hV : SlsAt w vs ss) :
    Calls Tryz.prog 3 #[v, vs, .agg (slL r).toArray, .int .i64 n] w fun e w' => e = .returned (.bool true) ∧ Below w.heap.size w w' := by
  by_cases h : (400 < l.length ∧ l.length ≤ 8192) ∨ 9000 < l.length ∨ 300 < ss.length
  · exact tells_skip v vs l ss r n w hS hV h
  · exact tells_go v vs l ss r n w hS hV h
end Go.Proofs.YtnnlfeimebiboaaGreatDoor

namespace Go.Proofs.YtnnlfeimebiboaaGreatDoor
open Go.ChangeShapes Go.WideShapes Go.ChangeAt Go.RowKit

theorem own : ownKnob Tryz.prog.godebug = none := by kernel_rfl
theorem laidOut : laidOutB Tryz.prog = true := by kernel_rfl

/-- A list of records that is handed in. -/
theorem recs_in {H : Type} {enc : TypeId × Value → H} {W : World} {spare : Nat → Bool} {fuel : Nat} {cs : List Value} {x : DataW H × List MemPlace} {α : Type} {k : Nat} {f : α → List Value} {ty e : TypeId} (hu : Tryz.prog.underlying ty = some (.slice e)) (ck : Tryz.prog.cellsOf e = k) (hk : 0 < k)
    (hat : ∀ (n : Nat) (cs : List Value) (x : DataW H × List MemPlace), cs.length = k → DataW.trod enc Tryz.prog W 0 spare true n e cs = some x → ∃ q : α, cs = f q)
    (hf : DataW.trod enc Tryz.prog W 0 spare true fuel ty cs = some x) : ∃ (v : Value) (qs : List α), cs = [v] ∧ RecAt k f W v qs ∧ qs.length ≤ 9223372036854775807 ∧ ((x.1 = .nil ∧ qs = []) ∨ ∃ es sp, x.1 = .slice es sp ∧ es.length = qs.length) := by
  rcases Deep.open_slice hu hf with ⟨hcs, hx0⟩ | ⟨a, len, cap, m, n, D, Pl, hcs, _, hl, hm, hmm, hx1, hx⟩
  · subst hcs
    exact ⟨_, [], rfl, ⟨⟨none, 0, rfl, .inl rfl⟩, fun a n c e => by cases e; exact Nat.le_refl _⟩, by simp, .inl ⟨by rw [hx0], rfl⟩⟩
  · subst hcs
    have hlm : len ≤ m := by rw [hmm]; split <;> omega
    rw [ck] at hx
    have hdat : ∃ es sp, x.1 = .slice es sp ∧ es.length = len := by rw [hx1]; exact ⟨_, _, rfl, by simp⟩
    obtain ⟨es, sp, hes, hel⟩ := hdat
    by_cases h0 : len = 0
    · subst h0
      exact ⟨_, [], rfl, ⟨⟨_, _, rfl, .inl rfl⟩, fun a n c e => by cases e; exact hl⟩, by simp, .inr ⟨es, sp, hes, by simpa using hel⟩⟩
    · obtain ⟨b, off, spot⟩ := a
      obtain ⟨cs', hc0, ht0⟩ := hx 0 (by omega)
      have hb := World.cells?_block hc0 (by omega)
      obtain ⟨_, hl0, hce⟩ := World.cells?_some hc0
      have hg := hce 0 (by omega)
      have hspot : spot = none := by
        match cs', hl0 with
        | z :: _, _ => simpa [Addr.add] using World.cell?_spot hg
        | [], h => simp at h; omega
      subst hspot
      rw [addr_add] at hb
      have hq : ∀ i : Fin len, ∃ q : α, ∀ j u, (f q)[j]? = some u → W.cell? ⟨b, off + i * k + j, none⟩ = some u := fun i => by
        obtain ⟨cs', hc1, ht1⟩ := hx i (by omega)
        rw [addr_add] at hc1
        obtain ⟨_, hl1, hce1⟩ := World.cells?_some hc1
        obtain ⟨q, rfl⟩ := hat _ _ _ hl1 ht1
        refine ⟨q, fun j u hu => ?_⟩
        have hj : j < (f q).length := (List.getElem?_eq_some_iff.1 hu).1
        have := hce1 j (by omega)
        rw [addr_add] at this
        exact this.trans hu
      refine ⟨_, List.ofFn (fun i => Classical.choose (hq i)), rfl, ⟨⟨_, _, by simp; exact rfl, .inr ⟨b, off, rfl, hb, fun i hi j u hu => ?_⟩⟩, fun a n c e => by cases e; exact hl⟩, by simp; unfold maxLen at hm; omega, .inr ⟨es, sp, hes, by simpa using hel⟩⟩
      have hi' : i < len := by simpa using hi
      have := Classical.choose_spec (hq ⟨i, hi'⟩) j u (by simpa using hu)
      simpa using this
end Go.Proofs.YtnnlfeimebiboaaGreatDoor
