/-
  What is proved here: what Plain answers.
-/
import Derived.Test.YtkhnfmdhdfpdhaaMassW
namespace Go.Proofs.Ytkhnfmdhdfpdhaa
open Go.RowKit Go.Shelf

theorem prL_size (p : Pr) : (prL p).toArray.size = 17 := rfl
theorem prL_one (p : Pr) : (prL p).toArray.all (·.oneCell') = true := by simp [prL, Value.oneCell']
theorem paC_one (a : Pa) (h1 : a.sv.oneCell' = true) (h2 : a.mv.oneCell' = true) : (paC a).all (·.oneCell') = true := by simp [paC, Value.oneCell']; exact ⟨h1, h2⟩
end Go.Proofs.Ytkhnfmdhdfpdhaa
