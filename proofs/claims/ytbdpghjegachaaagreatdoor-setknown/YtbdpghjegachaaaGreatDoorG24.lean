/-
  What is proved here: SetKnown answers true.
  What is proved here: how lists of masses and paragraphs that are handed in look.
-/
import Derived.Test.YtbdpghjegachaaaGreatDoorG23
import Derived.Test.YtbdpghjegachaaaGreatDoorG6
import Derived.ProofKit
import Derived.OpenShut
import Derived.ChangeOld
import Derived.Below
import Derived.Deep.Slices
import Derived.SizedLaws
namespace Go.Proofs.YtbdpghjegachaaaGreatDoor
open Go.RowKit Go.Shelf

/-- The last example's paragraph, in its box. -/
theorem four_mid (w2 : World) (sv : Value) (hA2 : PaAt w2 (ofP babT sv 0)) : ∃ W4, (w2.alloc (.cells #[.string ⟨#[]⟩, .slice none 0 0, .int .i64 0, .int .i64 0, .int .i64 0, .int .i64 0, .int .i64 0, .int .i64 0, .int .i64 0, .int .i64 0, .int .i64 0, .int .i64 0, .int .i64 0, .int .i64 0, .int .i64 0, .int .i64 0, .int .i64 0, .int .i64 0, .int .i64 0, .string ⟨#[]⟩, .slice none 0 0] 27)).setRow w2.heap.size (paC (ofP babT sv 0)) = W4 ∧ W4.cell? ⟨w2.heap.size, 4, none⟩ = some (.int .i64 0) ∧ W4.frozen? ⟨w2.heap.size, 4, none⟩ = false ∧ (W4.setCell ⟨w2.heap.size, 4, none⟩ (.int .i64 2)).heap[w2.heap.size]? = some (.cells (paC (alP babT sv 2)) 27 (0, 0)) ∧ PaAt (W4.setCell ⟨w2.heap.size, 4, none⟩ (.int .i64 2)) (alP babT sv 2) ∧ Below w2.heap.size w2 (W4.setCell ⟨w2.heap.size, 4, none⟩ (.int .i64 2)) := by
  have hT4 : Turns (fun k => k = w2.heap.size) w2 ((w2.alloc (.cells #[.string ⟨#[]⟩, .slice none 0 0, .int .i64 0, .int .i64 0, .int .i64 0, .int .i64 0, .int .i64 0, .int .i64 0, .int .i64 0, .int .i64 0, .int .i64 0, .int .i64 0, .int .i64 0, .int .i64 0, .int .i64 0, .int .i64 0, .int .i64 0, .int .i64 0, .int .i64 0, .string ⟨#[]⟩, .slice none 0 0] 27)).setRow w2.heap.size (paC (ofP babT sv 0))) := (Turns.alloc _ w2 _).trans (Turns.setRow (X := fun k => k = w2.heap.size) _ rfl _)
  have hl4 : ((w2.alloc (.cells #[.string ⟨#[]⟩, .slice none 0 0, .int .i64 0, .int .i64 0, .int .i64 0, .int .i64 0, .int .i64 0, .int .i64 0, .int .i64 0, .int .i64 0, .int .i64 0, .int .i64 0, .int .i64 0, .int .i64 0, .int .i64 0, .int .i64 0, .int .i64 0, .int .i64 0, .int .i64 0, .string ⟨#[]⟩, .slice none 0 0] 27)).setRow w2.heap.size (paC (ofP babT sv 0))).heap[w2.heap.size]? = some (.cells (paC (ofP babT sv 0)) 27 (0, 0)) := setRow_heap _ _ _ _ 27 _ (PB.new w2 zeroP).row
  refine ⟨_, rfl, ?_⟩
  generalize (w2.alloc (.cells #[.string ⟨#[]⟩, .slice none 0 0, .int .i64 0, .int .i64 0, .int .i64 0, .int .i64 0, .int .i64 0, .int .i64 0, .int .i64 0, .int .i64 0, .int .i64 0, .int .i64 0, .int .i64 0, .int .i64 0, .int .i64 0, .int .i64 0, .int .i64 0, .int .i64 0, .int .i64 0, .string ⟨#[]⟩, .slice none 0 0] 27)).setRow w2.heap.size (paC (ofP babT sv 0)) = W4 at *
  have hT5 := Turns.setCell (X := fun k => k = w2.heap.size) W4 (p := ⟨w2.heap.size, 4, none⟩) rfl (.int .i64 2)
  have hl5 := heap_setCell_same W4 w2.heap.size 4 _ 27 (.int .i64 2) hl4
  rw [alP_set] at hl5
  have hB : Below w2.heap.size w2 (W4.setCell ⟨w2.heap.size, 4, none⟩ (.int .i64 2)) := (hT4.trans hT5).below (Nat.le_refl _) (fun k hk => by omega)
  exact ⟨by rw [Lib.cell_of_heap hl4]; rfl, Lib.frozen_of_heap hl4 _, hl5, (hA2.below hB (Nat.le_refl _)).al 2, hB⟩
set_option maxRecDepth 100000 in
set_option maxHeartbeats 8000000 in
theorem known4 (w : World) : Calls Tryz.prog 4 #[] w fun e w' => e = .returned (.bool true) ∧ Below w.heap.size w w' := by
  have hB0 := (Below.refl w.heap.size w).alloc (Nat.le_refl _) (.cells #[.int .i64 0, .int .i64 5, .int .i64 5, .int .i64 3, .int .i64 8, .int .i64 5, .int .i64 13, .int .i64 3, .int .i64 16, .int .i64 5] 3)
  have hGr : (w.alloc (.cells #[.int .i64 0, .int .i64 5, .int .i64 5, .int .i64 3, .int .i64 8, .int .i64 5, .int .i64 13, .int .i64 3, .int .i64 16, .int .i64 5] 3)).heap[w.heap.size]? = some (.cells #[.int .i64 0, .int .i64 5, .int .i64 5, .int .i64 3, .int .i64 8, .int .i64 5, .int .i64 13, .int .i64 3, .int .i64 16, .int .i64 5] 3 (0, 0)) := World.alloc_heap_new w _
  have hGl : w.heap.size < (w.alloc (.cells #[.int .i64 0, .int .i64 5, .int .i64 5, .int .i64 3, .int .i64 8, .int .i64 5, .int .i64 13, .int .i64 3, .int .i64 16, .int .i64 5] 3)).heap.size := by simp
  generalize hw0 : w.alloc (.cells #[.int .i64 0, .int .i64 5, .int .i64 5, .int .i64 3, .int .i64 8, .int .i64 5, .int .i64 13, .int .i64 3, .int .i64 16, .int .i64 5] 3) = W0 at *
  have hS : Hid (Below W0.heap.size W0 W0) := Below.refl _ _
  have hz : Hid (∀ w2 : World, (w2.alloc (.cells #[.string ⟨#[]⟩, .slice none 0 0, .int .i64 0, .int .i64 0, .int .i64 0, .int .i64 0, .int .i64 0, .int .i64 0, .int .i64 0, .int .i64 0, .int .i64 0, .int .i64 0, .int .i64 0, .int .i64 0, .int .i64 0, .int .i64 0, .int .i64 0, .int .i64 0, .int .i64 0, .string ⟨#[]⟩, .slice none 0 0] 27)).heap[w2.heap.size]? = some (.cells (paC zeroP) 27 (0, 0))) := fun w2 => (PB.new w2 zeroP).row
  have hof : Hid (∀ W, Calls Tryz.prog 19 #[.string ⟨#[32, 97, 98]⟩] W fun e w' => (∃ sv, e = .returned (.agg (paC (ofP babT sv 0))) ∧ PaAt w' (ofP babT sv 0)) ∧ Below W.heap.size W w') := fun W => of_any babT (by decide) W
  have h7w : Hid (∀ (W6 : World) (B : Nat) (s5 : Value), PaAt (W6.setCell ⟨B, 4, none⟩ (.int .i64 2)) (alP babT s5 2) → Hid (Below W0.heap.size W0 (W6.setCell ⟨B, 4, none⟩ (.int .i64 2))) → Hid (Calls Tryz.prog 17 #[.agg (paC (alP babT s5 2)), .agg #[.int .i64 0, .int .i64 3, .int .i64 0, .int .i64 30, .int .i64 0, .bool false, .int .i64 0], .bool false, .slice (some ⟨W6.heap.size, 0, none⟩) 6 6] ((W6.setCell ⟨B, 4, none⟩ (.int .i64 2)).alloc (.cells #[.int .i64 20, .int .i64 0, .int .i64 20, .int .i64 5, .int .i64 25, .int .i64 5] 3)) fun e w' => e = .returned (.bool true) ∧ Hid (Below W0.heap.size W0 w'))) := fun W6 B s5 hA hS => by
    have h := e7_at s5 _ hA
    rw [World.size_setCell] at h
    refine h.mono ?_
    rintro e w' ⟨rfl, hb⟩
    have hz := hS.out.size
    rw [World.size_setCell] at hz
    exact ⟨rfl, hS.out.trans (hb.mono hz)⟩
  go_enter Tryz.func4, Tryz.ntmps4
  go_wp2_with (first | (go_at_call 16; refine (awake_any _).mono ?_; rintro e W2 ⟨rfl, hb⟩; have hS : Hid (Below W0.heap.size W0 W2) := hS.out.trans (hb.mono hS.out.size); clear hb) | (go_at_call 18; refine (aligned_any _ _).mono ?_; rintro e W1 ⟨⟨sv, rfl, hA⟩, hb⟩; have hS : Hid (Below W0.heap.size W0 W1) := hS.out.trans (hb.mono hS.out.size); clear hb) | (go_at_call 17; first | ((with_reducible refine (e1_at _ w.heap.size _ hA ((hS.out.block _ hGl).trans hGr)).mono ?_); rintro e W2 ⟨rfl, hb⟩; have hS : Hid (Below W0.heap.size W0 W2) := hS.out.trans (hb.mono hS.out.size); clear hA hb) | ((with_reducible refine (e2_at _ _ hA).mono ?_); rintro e W2 ⟨rfl, hb⟩; have hS : Hid (Below W0.heap.size W0 W2) := hS.out.trans (hb.mono hS.out.size); clear hA hb) | ((with_reducible refine (e3_at _ _ hA).mono ?_); rintro e W2 ⟨rfl, hb⟩; have hS : Hid (Below W0.heap.size W0 W2) := hS.out.trans (hb.mono hS.out.size); clear hA hb) | ((with_reducible refine (e4_at _ _ hA).mono ?_); rintro e W2 ⟨rfl, hb⟩; have hS : Hid (Below W0.heap.size W0 W2) := hS.out.trans (hb.mono hS.out.size); clear hA hb) | ((with_reducible refine (e5_at _ w.heap.size _ hA ((hS.out.block _ hGl).trans hGr)).mono ?_); rintro e W2 ⟨rfl, hb⟩; have hS : Hid (Below W0.heap.size W0 W2) := hS.out.trans (hb.mono hS.out.size); clear hA hb) | ((with_reducible refine (e6_at _ _ hA).mono ?_); rintro e W2 ⟨rfl, hb⟩; have hS : Hid (Below W0.heap.size W0 W2) := hS.out.trans (hb.mono hS.out.size); clear hA hb) | ((with_reducible refine h7.out.mono ?_); rintro e W2 ⟨rfl, hS⟩; clear h7)) | (go_at_call 8; refine (e8_at _ _ hA).mono ?_; rintro e W2 ⟨rfl, hb⟩; have hS : Hid (Below W0.heap.size W0 W2) := hS.out.trans (hb.mono hS.out.size); clear hA hb) | (go_at_call 19; refine (hof.out _).mono ?_; rintro e W5 ⟨⟨s5, rfl, hA5⟩, hb⟩; have hS : Hid (Below W0.heap.size W0 W5) := hS.out.trans (hb.mono hS.out.size); obtain ⟨W6, e6, c6, z6, l7, hA, hb7⟩ := four_mid W5 s5 hA5; have hsv := hA5.one; have hS : Hid (Below W0.heap.size W0 (W6.setCell ⟨W5.heap.size, 4, none⟩ (.int .i64 2))) := hS.out.trans (hb7.mono hS.out.size); have h7 := h7w.out W6 W5.heap.size s5 hA hS; clear hb hA5 hb7 hA h7w) | (refine wpList_store_row rfl 27 (.tmp 5) (.tmp 42) rfl W5.heap.size (paC (ofP babT s5 0)) rfl rfl 27 _ (hz.out W5) (info34 _) rfl (paC_one _ hsv rfl) ?_; rw [e6]) | (refine wpList_load_want 27 _ rfl rfl W5.heap.size rfl 27 _ (0, 0) _ l7 Tryz.underlying27 rfl (info34 _) ?_))
  go_ret
  exact ⟨rfl, hB0.trans (hS.out.mono hB0.size)⟩
end Go.Proofs.YtbdpghjegachaaaGreatDoor

namespace Go.Proofs.YtbdpghjegachaaaGreatDoor
open Go.ChangeShapes Go.WideShapes Go.ChangeAt Go.RowKit

theorem own : ownKnob Tryz.prog.godebug = none := by kernel_rfl
theorem laidOut : laidOutB Tryz.prog = true := by kernel_rfl

end Go.Proofs.YtbdpghjegachaaaGreatDoor
