/-
  What is proved here: the bounds of a paragraph's properties, as properties answers them.
-/
import Derived.Test.YtkhnfmdhdfpdhaaMetH
namespace Go.Proofs.Ytkhnfmdhdfpdhaa
open Go.RowKit Go.Shelf

set_option maxRecDepth 100000 in
set_option maxHeartbeats 2000000 in
theorem properties_any (p : Pr) (w : World) :
    Calls Try.prog 88 #[.agg (prL p).toArray] w fun e w' => ∃ v, e = .returned v ∧ RecAt 3 bdL w' v (prB p) ∧ Below w.heap.size w w' := by
  have hr := fun W : World => rec_new (k := 3) bdL_len W 152 (prB p)
  obtain ⟨x0, x1, x2, x3, x4, x5, x6, x7, x8, x9, x10, x11, x12, x13, x14, x15, x16⟩ := p
  show Calls Try.prog 88 #[.agg #[.int .i64 x0, .int .i64 x1, .int .i64 x2, .int .i64 x3, .int .i64 x4, .int .i64 x5, .int .i64 x6, .int .i64 x7, .int .i64 x8, .int .i64 x9, .int .i64 x10, .int .i64 x11, .int .i64 x12, .int .i64 x13, .int .i64 x14, .int .i64 x15, .int .i64 x16]] w _
  go_enter Try.func88, Try.ntmps88
  go_wp2
  go_ret
  have h1 := hr (w.alloc (.cells #[.int .i64 x0, .int .i64 x1, .int .i64 x2, .int .i64 x3, .int .i64 x4, .int .i64 x5, .int .i64 x6, .int .i64 x7, .int .i64 x8, .int .i64 x9, .int .i64 x10, .int .i64 x11, .int .i64 x12, .int .i64 x13, .int .i64 x14, .int .i64 x15, .int .i64 x16] 37))
  rw [World.size_alloc] at h1
  have hb := (Below.refl w.heap.size w).alloc (Nat.le_refl _) (.cells #[.int .i64 x0, .int .i64 x1, .int .i64 x2, .int .i64 x3, .int .i64 x4, .int .i64 x5, .int .i64 x6, .int .i64 x7, .int .i64 x8, .int .i64 x9, .int .i64 x10, .int .i64 x11, .int .i64 x12, .int .i64 x13, .int .i64 x14, .int .i64 x15, .int .i64 x16] 37)
  exact ⟨_, rfl, h1, hb.alloc hb.size _⟩

end Go.Proofs.Ytkhnfmdhdfpdhaa
