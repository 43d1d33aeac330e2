/-
  What is proved here: awake answers true.
-/
import Derived.Test.YtjagnidkjpmkcaaDoorSame
namespace Go.Proofs.YtjagnidkjpmkcaaDoor
open Go.RowKit Go.Shelf

theorem strEq_no {a b : ByteArray} (h : a ≠ b) : (ByteArray.toList a == ByteArray.toList b) = false := by
  rw [beq_eq_false_iff_ne]
  intro e
  rw [ByteArray.toList_eq, ByteArray.toList_eq] at e
  exact h (ByteArray.ext (Array.toList_inj.1 e))

def E6 : List En := [(1, 0), (1, 1), (1, 1), (0, 0), (1, 0), (1, 1)]
def L6 : List (List UInt8) := [[49, 46], [97, 41], [98, 41], [], [50, 46], [97, 41]]

theorem let_1 : lettersN 1 = [97] := by rw [lettersN_pos (by omega)]; show lettersN 0 ++ _ = _; rw [lettersN_zero]; rfl
theorem let_2 : lettersN 2 = [98] := by rw [lettersN_pos (by omega)]; show lettersN 0 ++ _ = _; rw [lettersN_zero]; rfl
theorem dec_one (n : Nat) (h : n < 10) : Lib.decDigits n = [UInt8.ofNat (48 + n)] := by rw [Lib.decDigits, dif_pos h]
theorem lab01 : labelN 0 1 = [49, 46] := by unfold labelN; rw [if_pos rfl, dec_one 1 (by omega)]; rfl
theorem lab02 : labelN 0 2 = [50, 46] := by unfold labelN; rw [if_pos rfl, dec_one 2 (by omega)]; rfl
theorem lab11 : labelN 1 1 = [97, 41] := by unfold labelN; rw [if_neg (by omega), if_pos rfl, let_1]; rfl
theorem lab12 : labelN 1 2 = [98, 41] := by unfold labelN; rw [if_neg (by omega), if_pos rfl, let_2]; rfl
theorem lab214 : labelN 2 14 = [120, 105, 118, 46] := by unfold labelN; rw [if_neg (by omega), if_neg (by omega), if_pos rfl]; rfl

theorem E6_labs : labs E6 = L6 := by
  have : labs E6 = [labelN 0 1, labelN 1 1, labelN 1 2, [], labelN 0 2, labelN 1 1] := by rfl
  rw [this, lab01, lab11, lab12, lab02]; rfl
theorem E6_ok : refE E6 = 0 := by rfl

theorem en6 (w : World) : EnAt (w.alloc (.cells #[.int .i64 1, .int .i64 0, .int .i64 1, .int .i64 1, .int .i64 1, .int .i64 1, .int .i64 0, .int .i64 0, .int .i64 1, .int .i64 0, .int .i64 1, .int .i64 1] 37)) (.slice (some ⟨w.heap.size, 0, none⟩) 6 6) E6 := by
  refine ⟨⟨_, _, rfl, .inr ⟨w.heap.size, 0, rfl, by simp, fun i hi => ?_⟩⟩, by decide⟩
  have hi6 : i < 6 := hi
  rw [Lib.cell_of_heap (heap_new w _), Lib.cell_of_heap (heap_new w _), Nat.zero_add]
  match i, hi6 with
  | 0, _ => exact ⟨rfl, rfl⟩
  | 1, _ => exact ⟨rfl, rfl⟩
  | 2, _ => exact ⟨rfl, rfl⟩
  | 3, _ => exact ⟨rfl, rfl⟩
  | 4, _ => exact ⟨rfl, rfl⟩
  | 5, _ => exact ⟨rfl, rfl⟩

theorem tx_new (w : World) (L : List (List UInt8)) (hl : L.length ≤ 1000) : TxAt (w.alloc (.cells (strC L).toArray 9)) (.slice (some ⟨w.heap.size, 0, none⟩) L.length L.length) L := by
  refine ⟨⟨_, _, rfl, .inr ⟨w.heap.size, 0, rfl, by simp, fun i hi => ?_⟩⟩, by omega⟩
  rw [Lib.cell_of_heap (heap_new w _), Nat.zero_add]
  simp [strC, hi]

set_option maxRecDepth 100000 in
set_option maxHeartbeats 2000000 in
theorem awake_yes (w : World) (ht : Tab w) : Calls Tryd.prog 19 #[] w fun e w' => e = .returned (.bool true) ∧ Below w.heap.size w w' := by
  have hL := Label_yes 2 14 (by omega) (by omega) (by omega) w ht
  rw [lab214] at hL
  have hLs : ∀ w1, Below w.heap.size w w1 → Calls Tryd.prog 12 #[.slice (some ⟨w1.heap.size, 0, none⟩) 6 6] (w1.alloc (.cells #[.int .i64 1, .int .i64 0, .int .i64 1, .int .i64 1, .int .i64 1, .int .i64 1, .int .i64 0, .int .i64 0, .int .i64 1, .int .i64 0, .int .i64 1, .int .i64 1] 37)) fun e w' => ∃ v', e = .returned (.tuple #[v', .int .i64 0]) ∧ TxAt w' v' L6 ∧ Below w.heap.size w w' := fun w1 hb => by
    have hba := hb.alloc hb.size (.cells #[.int .i64 1, .int .i64 0, .int .i64 1, .int .i64 1, .int .i64 1, .int .i64 1, .int .i64 0, .int .i64 0, .int .i64 1, .int .i64 0, .int .i64 1, .int .i64 1] 37)
    refine (Labels_yes _ E6 _ (en6 w1) E6_ok (ht.below hba)).mono ?_
    rintro e w' ⟨v', rfl, q1, q2⟩
    rw [E6_labs] at q1
    exact ⟨v', rfl, TxAt.of_row q1 (by decide), hba.trans (q2.mono hba.size)⟩
  have hSm : ∀ v w2, TxAt w2 v L6 → Calls Tryd.prog 15 #[v, .slice (some ⟨w2.heap.size, 0, none⟩) 6 6] (w2.alloc (.cells #[.string ⟨#[49, 46]⟩, .string ⟨#[97, 41]⟩, .string ⟨#[98, 41]⟩, .string ⟨#[]⟩, .string ⟨#[50, 46]⟩, .string ⟨#[97, 41]⟩] 9)) fun e w' => e = .returned (.bool true) ∧ Below w2.heap.size w2 w' := fun v w2 hT => by
    have hba := (Below.refl w2.heap.size w2).alloc (Nat.le_refl _) (.cells #[.string ⟨#[49, 46]⟩, .string ⟨#[97, 41]⟩, .string ⟨#[98, 41]⟩, .string ⟨#[]⟩, .string ⟨#[50, 46]⟩, .string ⟨#[97, 41]⟩] 9)
    refine (sameTexts_yes _ _ L6 _ (hT.below hba) (tx_new w2 L6 (by decide))).mono ?_
    rintro e w' ⟨rfl, q⟩
    exact ⟨rfl, hba.trans (q.mono hba.size)⟩
  go_enter Tryd.func19, Tryd.ntmps19
  go_wp2_with (first
    | (go_at_call 9; refine hL.mono ?_; rintro e w1 ⟨rfl, hb1⟩)
    | (go_at_call 12; refine (hLs _ (by assumption)).mono ?_; rintro e w2 ⟨v2, rfl, hT2, hb2⟩)
    | (go_at_call 15; refine (hSm _ _ (by assumption)).mono ?_; rintro e w3 ⟨rfl, hb3⟩))
  go_ret
  exact ⟨rfl, hb2.trans (hb3.mono hb2.size)⟩

end Go.Proofs.YtjagnidkjpmkcaaDoor
