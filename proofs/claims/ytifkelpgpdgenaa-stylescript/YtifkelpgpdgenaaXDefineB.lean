/-
  What is proved here: what Define of style answers where a name is none, or a parent is missing.
-/
import Derived.Test.YtifkelpgpdgenaaXDefineA
namespace Go.Proofs.Ytifkelpgpdgenaa
open Go.RowKit Go.Shelf

variable {X : Nat → Prop}

set_option maxRecDepth 100000 in
set_option maxHeartbeats 4000000 in
theorem define_bad (t b n : Nat) (S : Sh) (hWF : WF S) (name parent : Str) (hn : nameB name = false) (v : Value) (L : List (Int × Int)) (w : World) (h : SheetAt X w t b n S) :
    Calls Try.prog 23 #[.pointer (some ⟨t, 0, none⟩), .string name, .string parent, v] w (defPost X w t b n S name parent L) := by
  have hd : defE S n name parent L = 4 := by unfold defE; rw [if_pos hn]
  have hmade := made_yes t w h.cells.1
  have hisn := isName_any name
  rw [hn] at hisn
  have hfin := defPost_no (e := 4) hWF (Below.refl _ w) h hd (by decide)
  go_enter Try.func23, Try.ntmps23
  go_wp2_with (first
    | (go_at_call 37; refine hmade.mono ?_; rintro e w' ⟨rfl, hww⟩; subst w')
    | (go_at_call 39; refine (hisn _).mono ?_; rintro e w' ⟨rfl, hww⟩; subst w'))
  go_ret
  exact hfin

set_option maxRecDepth 100000 in
set_option maxHeartbeats 4000000 in
theorem define_missing (t b n : Nat) (S : Sh) (hWF : WF S) (name parent : Str) (hn : nameB name = true) (hpe : parent ≠ e0) (hps : S parent = none) (hpl : parent.size ≤ maxLen) (v : Value) (L : List (Int × Int)) (w : World) (h : SheetAt X w t b n S) :
    Calls Try.prog 23 #[.pointer (some ⟨t, 0, none⟩), .string name, .string parent, v] w (defPost X w t b n S name parent L) := by
  have hd : defE S n name parent L = 6 := by unfold defE; rw [if_neg (by rw [hn]; decide), if_pos ⟨hpe, hps⟩]
  have hmade := made_yes t w h.cells.1
  have hisn := isName_any name
  rw [hn] at hisn
  have hE := isEmpty_no (size_pos hpe)
  have hh := has_any t b n S parent hpl w h
  rw [hps] at hh
  go_enter Try.func23, Try.ntmps23
  go_wp2_with (first
    | (go_at_call 37; refine hmade.mono ?_; rintro e w' ⟨rfl, hww⟩; subst w')
    | (go_at_call 39; refine (hisn _).mono ?_; rintro e w' ⟨rfl, hww⟩; subst w'))
  refine hh.mono ?_
  rintro e w1 ⟨rfl, b1⟩
  have hfin := defPost_no (e := 6) hWF b1 (h.below b1) hd (by decide)
  rw [show (none : Option Sty).isSome = false from rfl]
  go_wp2_with fail
  go_ret
  exact hfin
end Go.Proofs.Ytifkelpgpdgenaa
