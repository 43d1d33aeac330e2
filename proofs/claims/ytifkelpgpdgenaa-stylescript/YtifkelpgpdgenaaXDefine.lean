/-
  What is proved here: what Define of style answers.
-/
import Derived.Test.YtifkelpgpdgenaaXDefineB
import Derived.Test.YtifkelpgpdgenaaXDefineC
import Derived.Test.YtifkelpgpdgenaaXDefineD
namespace Go.Proofs.Ytifkelpgpdgenaa
open Go.RowKit Go.Shelf

variable {X : Nat → Prop}

theorem define_any (t b n : Nat) (S : Sh) (hWF : WF S) (name parent : Str) (hpl : parent.size ≤ maxLen) (v : Value) (L : List (Int × Int)) (w : World) (h : SheetAt X w t b n S) (hL : SetsAt w v L) (hXL : XL X w) :
    Calls Try.prog 23 #[.pointer (some ⟨t, 0, none⟩), .string name, .string parent, v] w (defPost X w t b n S name parent L) := by
  cases hn : nameB name
  · exact define_bad t b n S hWF name parent hn v L w h
  · by_cases hpe : parent = e0
    · exact define_top t b n S hWF name parent hn hpe (by rw [hpe, e0_size]; omega) v L w h hL hXL
    · cases hps : S parent with
      | none => exact define_missing t b n S hWF name parent hn hpe hps hpl v L w h
      | some x => exact define_child t b n S hWF name parent hn hpe (by rw [hps]; rfl) (nameB_pos (hWF.name _ _ hps)).2 v L w h hL hXL
end Go.Proofs.Ytifkelpgpdgenaa
