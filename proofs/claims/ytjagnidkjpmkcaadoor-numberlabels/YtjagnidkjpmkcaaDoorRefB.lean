/-
  What is proved here: what the document's own roman and Label tell.
-/
import Derived.Test.YtjagnidkjpmkcaaDoorRefA
namespace Go.Proofs.YtjagnidkjpmkcaaDoor
open Go.RowKit Go.Shelf

def romW : Array Value := (romT.map fun x => Value.string ⟨x.1.toArray⟩).toArray
def romV : Array Value := (romT.map fun x => Value.int .i64 x.2).toArray
theorem romW_at (i : Nat) (h : i < 13) : romW[i]? = some (.string ⟨(romT[i]'h).1.toArray⟩) := by
  have h' : i < romT.length := h
  simp [romW, h']
  rfl
theorem romV_at (i : Nat) (h : i < 13) : romV[i]? = some (.int .i64 (romT[i]'h).2) := by
  have h' : i < romT.length := h
  simp [romV, h']
  rfl

set_option maxHeartbeats 4000000 in
set_option maxRecDepth 100000 in
theorem refRoman_any (n : Nat) (hn : n ≤ 3999) (w : World) :
    Calls Tryd.prog 26 #[.int .i64 n] w fun e w' => e = .returned (.string ⟨(romanN n).toArray⟩) ∧ Below w.heap.size w w' := by
  go_enter Tryd.func26, Tryd.ntmps26
  go_wp2_with fail
  change Code.wp _ _ _ _ ((w.alloc (.cells romW 9)).alloc (.cells romV 3))
  obtain ⟨w1, hw1⟩ : ∃ w1, ((w.alloc (.cells romW 9)).alloc (.cells romV 3)) = w1 := ⟨_, rfl⟩
  have hF : w1.heap[w.heap.size]? = some (.cells romW 9 (0, 0)) := by
    rw [← hw1]; exact (Below.heap_alloc _ _ _ (by simp)).trans (heap_new w _)
  have hG : w1.heap[w.heap.size + 1]? = some (.cells romV 3 (0, 0)) := by
    rw [← hw1]; have := heap_new (w.alloc (.cells romW 9)) (.cells romV 3); simpa using this
  have hBl : Below w.heap.size w w1 := by rw [← hw1]; exact ((Below.refl _ w).alloc (Nat.le_refl _) _).alloc (by simp) _
  rw [hw1]
  clear hw1
  go_loopw [0, 5, 6] (fun x s i wr => ∃ (k j : Nat) (l : List UInt8), k ≤ 3999 ∧ x = .int .i64 k ∧ j ≤ 13 ∧ i = .int .i64 j ∧ s = .string ⟨l.toArray⟩ ∧ l.length + 2 * k ≤ 8000 ∧ wr = w1 ∧ Hid (l ++ rom (romT.drop j) k = romanN n)) (fun _ _ i _ => 13 - (RowKit.intOf i).toNat)
  case atStart => exact ⟨n, 0, [], hn, rfl, by omega, rfl, rfl, by simp; omega, rfl, rfl⟩
  case round =>
    obtain ⟨k, j, l, hk, rfl, hj, rfl, rfl, hlen, rfl, hl⟩ := hrel
    by_cases hlt : j < 13
    · obtain ⟨v0, v1, v2⟩ := romT_pos j hlt
      have c0 : wr.cell? ⟨w.heap.size, j, none⟩ = some (.string ⟨(romT[j]'hlt).1.toArray⟩) := by rw [Lib.cell_of_heap hF, romW_at j hlt]
      have c1 : wr.cell? ⟨w.heap.size + 1, j, none⟩ = some (.int .i64 (romT[j]'hlt).2) := by rw [Lib.cell_of_heap hG, romV_at j hlt]
      have hdr := romT_drop j hlt
      obtain ⟨⟨sg, vl⟩, hrow⟩ : ∃ x, x = romT[j]'hlt := ⟨_, rfl⟩
      rw [← hrow] at c0 c1 v0 v1 v2 hdr
      simp only at c0 c1 v0 v1 v2
      rw [hdr] at hl
      clear hrow hdr
      go_wp2_with fail
      rw [show decide ((j : Int) < 13) = true from decide_eq_true (by omega)]
      go_loopw [0, 5] (fun x s wq => ∃ (k : Nat) (l : List UInt8), k ≤ 3999 ∧ x = .int .i64 k ∧ s = .string ⟨l.toArray⟩ ∧ l.length + 2 * k ≤ 8000 ∧ wq = wr ∧ Hid (l ++ rom ((sg, vl) :: List.drop (j + 1) romT) k = romanN n)) (fun x _ _ => (RowKit.intOf x).toNat)
      case atStart => exact ⟨k, l, hk, rfl, rfl, hlen, rfl, hl⟩
      case round =>
        clear hl hlen hk
        obtain ⟨k, l, hk, rfl, rfl, hlen, rfl, hl⟩ := hrel
        by_cases hge : vl ≤ k
        · have hge' : (vl : Int) ≤ k := by omega
          have hnext : Hid ((l ++ sg) ++ rom ((sg, vl) :: List.drop (j + 1) romT) (k - vl) = romanN n) := by
            show _ = _
            rw [← hl.out, rom_take v0 hge, List.append_assoc]
          have l1 : ¬ (9223372036854775807 < l.length + sg.length) := by omega
          clear hl
          go_wp2_with fail
          go_roundw
          case rel => exact ⟨k - vl, l ++ sg, by omega, by congr 1; omega, by rw [str_add2], by simp; omega, trivial, hnext⟩
          case measure => simp [RowKit.intOf]; omega
        · have hge' : ¬ ((vl : Int) ≤ k) := by omega
          have hnext : Hid (l ++ rom (List.drop (j + 1) romT) k = romanN n) := by
            show _ = _
            rw [← hl.out, rom_skip (by omega)]
          clear hl
          go_wp2_with fail
          go_roundw
          case rel => exact ⟨k, j + 1, l, hk, rfl, by omega, by simp, rfl, hlen, trivial, hnext⟩
          case measure => simp [RowKit.intOf]; omega
    · obtain rfl : j = 13 := by omega
      have hfin : Hid (l = romanN n) := by
        show _ = _
        rw [← hl.out]
        show _ = l ++ []
        rw [List.append_nil]
      clear hl
      go_wp2_with fail
      go_ret
      exact ⟨by rw [← hfin.out]; rfl, hBl⟩

set_option maxHeartbeats 1000000 in
set_option maxRecDepth 100000 in
theorem refLabel_any (lv n : Nat) (hl : lv ≤ 3) (hn : n ≤ 3999) (w : World) :
    Calls Tryd.prog 11 #[.int .i64 lv, .int .i64 n] w fun e w' => e = .returned (.string ⟨(labelN lv n).toArray⟩) ∧ Below w.heap.size w w' := by
  have hI := dec_any n hn w
  have hL := refLetters_any n hn w
  have hR := refRoman_any n hn w
  have l1 : ¬ (9223372036854775807 < (Lib.decDigits n).length + 1) := by have := dec_len n; omega
  have l2 : ¬ (9223372036854775807 < (lettersN n).length + 1) := by have := lettersN_len n; omega
  have l3 : ¬ (9223372036854775807 < (romanN n).length + 1) := by have := roman_len n; omega
  have h4 : lv = 0 ∨ lv = 1 ∨ lv = 2 ∨ lv = 3 := by omega
  rcases h4 with rfl | rfl | rfl | rfl
  · go_enter Tryd.func11, Tryd.ntmps11
    go_wp2_with (go_at_call 24; refine hI.mono ?_; rintro e w' ⟨rfl, rfl⟩)
    go_ret
    exact ⟨congrArg (fun x => Ending.returned (Value.string x)) (str_add _ 46), Below.refl _ _⟩
  · go_enter Tryd.func11, Tryd.ntmps11
    go_wp2_with (go_at_call 25; refine hL.mono ?_; rintro e w' ⟨rfl, hb⟩)
    go_ret
    exact ⟨congrArg (fun x => Ending.returned (Value.string x)) (str_add _ 41), hb⟩
  · go_enter Tryd.func11, Tryd.ntmps11
    go_wp2_with (go_at_call 26; refine hR.mono ?_; rintro e w' ⟨rfl, hb⟩)
    go_ret
    exact ⟨congrArg (fun x => Ending.returned (Value.string x)) (str_add _ 46), hb⟩
  · go_enter Tryd.func11, Tryd.ntmps11
    go_wp2_with fail
    go_ret
    exact ⟨rfl, Below.refl _ _⟩

end Go.Proofs.YtjagnidkjpmkcaaDoor
