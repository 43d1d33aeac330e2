/-
  What is proved here: what roman tells: the number in Roman numbers.
-/
import Derived.Test.YtjagnidkjpmkcaaDoorBuild
namespace Go.Proofs.YtjagnidkjpmkcaaDoor
open Go.RowKit Go.Shelf

/-- The table's cells. -/
def romC : Array Value := (romT.flatMap fun x => [Value.string ⟨x.1.toArray⟩, Value.int .i64 x.2]).toArray

theorem romT_len : romT.length = 13 := rfl
theorem romC_at (i : Nat) (h : i < 13) : romC[i * 2]? = some (.string ⟨(romT[i]'h).1.toArray⟩) ∧ romC[i * 2 + 1]? = some (.int .i64 (romT[i]'h).2) := by
  have : ∀ j : Fin 13, romC[j.val * 2]? = some (.string ⟨(romT[j.val]'j.2).1.toArray⟩) ∧ romC[j.val * 2 + 1]? = some (.int .i64 (romT[j.val]'j.2).2) := by
    intro j
    rcases j with ⟨j, hj⟩
    match j, hj with
    | 0, _ => exact ⟨rfl, rfl⟩
    | 1, _ => exact ⟨rfl, rfl⟩
    | 2, _ => exact ⟨rfl, rfl⟩
    | 3, _ => exact ⟨rfl, rfl⟩
    | 4, _ => exact ⟨rfl, rfl⟩
    | 5, _ => exact ⟨rfl, rfl⟩
    | 6, _ => exact ⟨rfl, rfl⟩
    | 7, _ => exact ⟨rfl, rfl⟩
    | 8, _ => exact ⟨rfl, rfl⟩
    | 9, _ => exact ⟨rfl, rfl⟩
    | 10, _ => exact ⟨rfl, rfl⟩
    | 11, _ => exact ⟨rfl, rfl⟩
    | 12, _ => exact ⟨rfl, rfl⟩
  exact this ⟨i, h⟩
theorem romT_pos (i : Nat) (h : i < 13) : 0 < (romT[i]'h).2 ∧ (romT[i]'h).2 ≤ 1000 ∧ (romT[i]'h).1.length ≤ 2 := by
  have : ∀ j : Fin 13, 0 < (romT[j.val]'j.2).2 ∧ (romT[j.val]'j.2).2 ≤ 1000 ∧ (romT[j.val]'j.2).1.length ≤ 2 := by decide
  exact this ⟨i, h⟩

theorem BldAt.alloc {W : World} {base b : Nat} {v : Value} {l : List UInt8} (h : BldAt W base b v l) (o : Obj) : BldAt (W.alloc o) base b v l := by
  obtain ⟨⟨p, hb, hp⟩, hr, hle⟩ := h
  exact ⟨⟨p, (Below.heap_alloc _ _ _ (Array.getElem?_eq_some_iff.1 hb).1).trans hb, hp⟩, hr.alloc _, hle⟩

theorem But.below {b B base : Nat} {v : Value} {a w w' : World} {l : List UInt8} (h : But b v w w') (hB : B ≤ b) (hbl : BldAt w base b v l) (hBb : B ≤ base) (ha : Below B a w) (hBa : B ≤ a.heap.size) : Below B a w' :=
  ⟨h.os.trans ha.os, h.tape.trans ha.tape, h.output.trans ha.output, Nat.le_trans ha.size h.size, fun k hk =>
    (h.block k (by have := ha.size; omega) (by omega) (fun e => by have := (hbl.row.lt k e).1; omega)).trans (ha.block k hk)⟩

theorem bld_isF {W : World} {base b : Nat} {v : Value} {l : List UInt8} (h : BldAt W base b v l) : Lib.IsBuilderF 67 5 base b (Lib.byteCells l) W := by
  obtain ⟨⟨p, hv, hp⟩, hrow, hle⟩ := h
  refine Lib.IsBuilderF.of ?_
  rcases hp with rfl | rfl
  · exact .inl ⟨hle, v, hv, hrow, Lib.ownBlock_ne hrow hv (by decide)⟩
  · exact .inr ⟨hle, v, hv, hrow, Lib.ownBlock_ne hrow hv (by decide)⟩

theorem romT_drop (j : Nat) (h : j < 13) : romT.drop j = romT[j]'h :: romT.drop (j + 1) := List.drop_eq_getElem_cons h

set_option maxHeartbeats 4000000 in
set_option maxRecDepth 100000 in
theorem roman_any (n : Nat) (hn : n ≤ 3999) (w : World) :
    Calls Tryd.prog 33 #[.int .i64 n] w fun e w' => e = .returned (.string ⟨(romanN n).toArray⟩) ∧ Below w.heap.size w w' := by
  go_enter Tryd.func33, Tryd.ntmps33
  go_wp2_with fail
  change Code.wp _ _ _ _ ((w.alloc (.cells romC 63)).alloc (.cells #[.pointer none, .slice none 0 0] 67))
  obtain ⟨w1, hw1⟩ : ∃ w1, ((w.alloc (.cells romC 63)).alloc (.cells #[.pointer none, .slice none 0 0] 67)) = w1 := ⟨_, rfl⟩
  have hs1 : w1.heap.size = w.heap.size + 2 := by rw [← hw1]; simp
  have hF : w1.heap[w.heap.size]? = some (.cells romC 63 (0, 0)) := by
    rw [← hw1]; exact (Below.heap_alloc _ _ _ (by simp)).trans (heap_new w _)
  have hB0 : w1.heap[w.heap.size + 1]? = some (.cells #[.pointer none, .slice none 0 0] 67 (0, 0)) := by
    rw [← hw1]; have := heap_new (w.alloc (.cells romC 63)) (.cells #[.pointer none, .slice none 0 0] 67); simpa using this
  have hBl : Below w.heap.size w w1 := by rw [← hw1]; exact ((Below.refl _ w).alloc (Nat.le_refl _) _).alloc (by simp) _
  rw [hw1]
  clear hw1
  go_loopw [0, 23] (fun x i wr => ∃ (k j : Nat) (l : List UInt8) (v : Value), k ≤ 3999 ∧ x = .int .i64 k ∧ j ≤ 13 ∧ i = .int .i64 j ∧ l.length + 2 * k ≤ 8000 ∧ BldAt wr (w.heap.size + 1) (w.heap.size + 1) v l ∧ Below (w.heap.size + 1) w1 wr ∧ Hid (l ++ rom (romT.drop j) k = romanN n)) (fun _ i _ => 13 - (RowKit.intOf i).toNat)
  case atStart => exact ⟨n, 0, [], .slice none 0 0, hn, rfl, by omega, rfl, by simp; omega, ⟨⟨_, hB0, .inl rfl⟩, World.ownsRow_nil _ _ _ _, by omega⟩, Below.refl _ _, rfl⟩
  case round =>
    obtain ⟨k, j, l, v, hk, rfl, hj, rfl, hlen, hbl, hb, hl⟩ := hrel
    by_cases hlt : j < 13
    · obtain ⟨r0, r1⟩ := romC_at j hlt
      obtain ⟨v0, v1, v2⟩ := romT_pos j hlt
      have hF' : wr.heap[w.heap.size]? = some (.cells romC 63 (0, 0)) := (hb.block _ (by omega)).trans hF
      have c0 : wr.cell? ⟨w.heap.size, j * 2, none⟩ = some (.string ⟨(romT[j]'hlt).1.toArray⟩) := by rw [Lib.cell_of_heap hF', r0]
      have c1 : wr.cell? ⟨w.heap.size, j * 2 + 1, none⟩ = some (.int .i64 (romT[j]'hlt).2) := by rw [Lib.cell_of_heap hF', r1]
      have hdr := romT_drop j hlt
      obtain ⟨⟨sg, vl⟩, hrow⟩ : ∃ x, x = romT[j]'hlt := ⟨_, rfl⟩
      rw [← hrow] at c0 c1 v0 v1 v2 hdr
      simp only at c0 c1 v0 v1 v2
      rw [hdr] at hl
      clear hrow r0 r1 hF'
      have HD : Hid (_ = _) := hdr
      clear hdr
      go_wp2_with fail
      have hX0 := heap_new wr (.cells #[.string ⟨sg.toArray⟩, .int .i64 vl] 63)
      have hXn : v.ownBlock ≠ some wr.heap.size := fun e => by have := (hbl.row.lt _ e).2; omega
      have hXb : w.heap.size + 1 < wr.heap.size := by have := hb.size; omega
      have hblA := hbl.alloc (.cells #[.string ⟨sg.toArray⟩, .int .i64 vl] 63)
      have hbA := hb.alloc (by have := hb.size; omega) (.cells #[.string ⟨sg.toArray⟩, .int .i64 vl] 63)
      clear hbl hb c0 c1
      generalize wr.heap.size = X at hX0 hXn hXb ⊢
      rw [show decide ((j : Int) < 13) = true from decide_eq_true (by omega)]
      go_loopw [0] (fun x wq => ∃ (k : Nat) (l : List UInt8) (v : Value), k ≤ 3999 ∧ x = .int .i64 k ∧ l.length + 2 * k ≤ 8000 ∧ BldAt wq (w.heap.size + 1) (w.heap.size + 1) v l ∧ Below (w.heap.size + 1) w1 wq ∧ wq.heap[X]? = some (.cells #[.string ⟨sg.toArray⟩, .int .i64 vl] 63 (0, 0)) ∧ v.ownBlock ≠ some X ∧ Hid (l ++ rom ((sg, vl) :: List.drop (j + 1) romT) k = romanN n)) (fun x _ => (RowKit.intOf x).toNat)
      case atStart => exact ⟨k, l, v, hk, rfl, hlen, hblA, hbA, hX0, hXn, hl⟩
      case round =>
        clear hl hblA hbA hX0 hXn hlen hk
        obtain ⟨k, l, v, hk, rfl, hlen, hbl, hb, hX, hXn, hl⟩ := hrel
        have d0 : wr.cell? ⟨X, 0, none⟩ = some (.string ⟨sg.toArray⟩) := by rw [Lib.cell_of_heap hX]; rfl
        have d1 : wr.cell? ⟨X, 1, none⟩ = some (.int .i64 vl) := by rw [Lib.cell_of_heap hX]; rfl
        by_cases hge : vl ≤ k
        · have hge' : (vl : Int) ≤ k := by omega
          have hws := writeString_any (w.heap.size + 1) (w.heap.size + 1) v l sg wr hbl (by omega)
          have hnext : Hid ((l ++ sg) ++ rom ((sg, vl) :: List.drop (j + 1) romT) (k - vl) = romanN n) := by
            show _ = _
            rw [← hl.out, rom_take v0 hge, List.append_assoc]
          clear hl
          have hXlt : X < wr.heap.size := (Array.getElem?_eq_some_iff.1 hX).1
          have hkeep : ∀ w', But (w.heap.size + 1) v wr w' → w'.heap[X]? = some (.cells #[.string ⟨sg.toArray⟩, .int .i64 vl] 63 (0, 0)) := fun w' q2 => (q2.block X hXlt (by omega) hXn).trans hX
          have hkeep1 : ∀ w', But (w.heap.size + 1) v wr w' → w'.cell? ⟨X, 1, none⟩ = some (.int .i64 vl) := fun w' q2 => by rw [Lib.cell_of_heap (hkeep w' q2)]; rfl
          go_wp2_with (go_at_call 37; refine hws.mono ?_; rintro e w' ⟨⟨xx, rfl⟩, v', q1, q2, q3⟩; have hX' := hkeep w' q2; have e1 := hkeep1 w' q2)
          go_roundw
          case rel =>
            refine ⟨k - vl, l ++ sg, v', by omega, by congr 1; omega, by simp; omega, q1, q2.below (Nat.le_refl _) hbl (Nat.le_refl _) hb (by omega), hX', ?_, hnext⟩
            rcases q3 with h | h
            · rw [h]; exact hXn
            · exact fun e => by have := h X e; omega
          case measure => simp [RowKit.intOf]; omega
        · have hge' : ¬ ((vl : Int) ≤ k) := by omega
          have hnext : Hid (l ++ rom (List.drop (j + 1) romT) k = romanN n) := by
            show _ = _
            rw [← hl.out, rom_skip (by omega)]
          clear hl
          go_wp2_with fail
          go_roundw
          case rel => exact ⟨k, j + 1, l, v, hk, rfl, by omega, by simp, hlen, hbl, hb, hnext⟩
          case measure => simp [RowKit.intOf]; omega
    · obtain rfl : j = 13 := by omega
      have hfin : Hid (l = romanN n) := by
        show _ = _
        rw [← hl.out]
        show _ = l ++ []
        rw [List.append_nil]
      clear hl
      have hstr := Tryd.Builder_String_any_k (w.heap.size + 1) (w.heap.size + 1) l wr (bld_isF hbl) (by have := hb.size; omega)
      go_wp2_with (go_at_call 38; refine hstr.mono ?_; rintro e w' ⟨rfl, _, q1, _⟩)
      go_ret
      exact ⟨by rw [← hfin.out]; rfl, hBl.trans ((hb.trans q1).mono (by omega))⟩

end Go.Proofs.YtjagnidkjpmkcaaDoor
