/-
  What is proved here: what the document's Split tells of any text.
-/
import Derived.Test.YtkhnfmdhdfpdhaaE4
import Derived.Test.YtkhnfmdhdfpdhaaE2
namespace Go.Proofs.Ytkhnfmdhdfpdhaa
open Go.RowKit Go.Shelf

/-- The box of a cluster that is being made. -/
def CBox (W : World) (B : Nat) (a b c : Int) : Prop := W.heap[B]? = some (.cells #[.int .i64 a, .int .i64 b, .int .i64 c] 120 (0, 0))
theorem CBox.cells {W : World} {B : Nat} {a b c : Int} (h : CBox W B a b c) : W.cell? ⟨B, 0, none⟩ = some (.int .i64 a) ∧ W.cell? ⟨B, 1, none⟩ = some (.int .i64 b) ∧ W.cell? ⟨B, 2, none⟩ = some (.int .i64 c) :=
  ⟨by rw [Lib.cell_of_heap h]; rfl, by rw [Lib.cell_of_heap h]; rfl, by rw [Lib.cell_of_heap h]; rfl⟩
theorem CBox.set {W : World} {B : Nat} {a b c : Int} (h : CBox W B a b c) (b' : Int) : CBox (W.setCell ⟨B, 1, none⟩ (.int .i64 b')) B a b' c := heap_setCell_same W B 1 _ 120 _ h
def toOf (B : Nat) (W : World) : Nat := match W.cell? ⟨B, 1, none⟩ with
  | some v => (intOf v).toNat
  | none => 0
theorem toOf_box {W : World} {B : Nat} {a c : Int} {b : Nat} (h : CBox W B a b c) : toOf B W = b := by
  unfold toOf; rw [h.cells.2.1]; simp [intOf]
theorem src_one (w : World) (l : List Value) (e : TypeId) (hl : l.length = 3) (h1 : ∀ u ∈ l, u.oneCell' = true) : Srcs (w.alloc (.cells l.toArray e)) 3 (.slice (some ⟨w.heap.size, 0, none⟩) 1 1) 1 l :=
  ⟨by omega, h1, .inr ⟨_, 1, rfl, cells_new w l e⟩⟩

/-- What the document's rounds keep. -/
structure Kept (t : ByteArray) (w : World) (v : Value) (k : Nat) (W : World) : Prop where
  row : W.ownsRow w.heap.size 120 3 v k (rowC t k)
  below : Below w.heap.size w W
theorem Kept.alloc {t : ByteArray} {w : World} {v : Value} {k : Nat} {W : World} (h : Kept t w v k W) (o : Obj) : Kept t w v k (W.alloc o) := ⟨h.row.alloc _, h.below.alloc h.below.size _⟩
theorem Kept.set {t : ByteArray} {w : World} {v : Value} {k B : Nat} {W : World} (h : Kept t w v k W) (hB : w.heap.size ≤ B) (hv : v.ownBlock ≠ some B) (i : Nat) (u : Value) : Kept t w v k (W.setCell ⟨B, i, none⟩ u) :=
  ⟨ownsRow_setCell_other h.row hv u, h.below.setCell (p := ⟨B, i, none⟩) hB u⟩

set_option maxRecDepth 100000 in
set_option maxHeartbeats 2000000 in
theorem rsplit_ok (t : ByteArray) (h : wrongI t = 0) (w : World) : Calls Try.prog 63 #[.string t] w fun e w' => ∃ v, e = .returned (.tuple #[v, .int .i64 0]) ∧ w'.ownsRow w.heap.size 120 3 v (num t) (rowC t (num t)) ∧ Below w.heap.size w w' := by
  have hR := wrong_any t w
  have hsz := ok_size h
  have hnl := num_le t
  have hK := rkind_any
  have hA := raccent_any
  obtain ⟨i0, hi, hz0, hz1, hz2⟩ := info_parts info28
  rw [h] at hR
  clear h
  go_enter Try.func63, Try.ntmps63
  go_wp2_with (go_at_call 76; refine hR.mono ?_; rintro e w' ⟨rfl, hww⟩; subst w')
  clear hR
  go_loopw [5, 6] (fun v p wr => ∃ k : Nat, k ≤ num t ∧ p = .int .i64 (st t k : Nat) ∧ Hid (Kept t w v k wr)) (fun _ p _ => t.size - (intOf p).toNat)
  case atStart => exact ⟨0, Nat.zero_le _, rfl, ⟨World.ownsRow_nil _ _ _ _, Below.refl _ _⟩⟩
  case round =>
    obtain ⟨k, hk, rfl, hkp⟩ := hrel
    by_cases hlt : st t k < t.size
    · have hkn := lt_num hlt
      have hbe := bt_eq hlt
      have hs1 := st_succ hlt
      have hs2 := st_le t (k + 1)
      have hs3 := st_lt hlt
      have hE1 : Hid (∀ j, kindI (bt t (st t k)) = 1 → (1 ≤ j ∧ j ≤ 3) → (∀ m, 1 ≤ m → m < j → accB (bt t (st t k + m)) = true) → (j = 3 ∨ accB (bt t (st t k + j)) = false) → st t (k + 1) = st t k + j) := fun j a b c d => hs1.trans (endN_is a b c d)
      have hE2 : Hid (kindI (bt t (st t k)) ≠ 1 → st t (k + 1) = st t k + 1) := fun h1 => hs1.trans (by unfold endN; rw [if_neg h1])
      have hrow1 : Hid (rowC t (k + 1) = rowC t k ++ [.int .i64 (st t k : Nat), .int .i64 (st t (k + 1) : Nat), .int .i64 (kindI (bt t (st t k)))]) := rfl
      have hrb : Hid (∀ g, u5.ownBlock = some g → g < wr.heap.size) := fun g hg => (hkp.out.row.lt g hg).2
      have hks := hkp.out.below.size
      have hgl : Hid (st t (k + 1) = st t (k + 1)) := rfl
      clear hs1
      generalize hq0 : st t (k + 1) = q at *
      have hq : Hid (st t (k + 1) = q) := hq0
      clear hq0 hgl
      generalize hp0 : st t k = p at *
      clear hp0
      generalize hkd0 : kindI (bt t p) = kd at *
      have hkd : Hid (kindI (bt t p) = kd) := hkd0
      rw [hbe] at hkd0
      clear hbe
      go_wp2_with (go_at_call 80; refine (hK _ _).mono ?_; rw [hkd0]; rintro e w' ⟨rfl, hww⟩; subst w')
      have hE3 : Hid (∀ r, kd = 1 → p < r → r ≤ p + 3 → (∀ m, p < m → m < r → accB (bt t m) = true) → (r = p + 3 ∨ accB (bt t r) = false) → q = r) := fun r a b c d e => by
        have := hE1.out (r - p) a (by omega) (fun m h1 h2 => d (p + m) (by omega) (by omega)) (by rw [show p + (r - p) = r by omega]; rcases e with e | e; exact .inl (by omega); exact .inr e)
        omega
      clear hE1
      obtain ⟨B, hB⟩ : ∃ B, wr.heap.size = B := ⟨_, rfl⟩
      obtain ⟨w1, hw1⟩ : ∃ w1, wr.alloc (Obj.cells #[Value.int IntKind.i64 p, Value.int IntKind.i64 ((p : Int) + 1), Value.int IntKind.i64 kd] 120) = w1 := ⟨_, rfl⟩
      have hb1 : CBox w1 B p ((p + 1 : Nat) : Int) kd := by rw [← hw1, ← hB]; exact World.alloc_heap_new wr _
      have hk1 : Hid (Kept t w u5 k w1) := by show Kept t w u5 k w1; rw [← hw1]; exact hkp.out.alloc _
      have hne : Hid (u5.ownBlock ≠ some B) := fun e => by have := hrb.out B e; omega
      rw [hw1, hB]
      rw [hB] at hks
      clear hw1 hB hrb hkp hkd0 hK
      have hv5 : Hid (u5 = u5) := rfl
      clear hv5
      go_loopw [25] (fun _ wr => ∃ r : Nat, p < r ∧ r ≤ p + 3 ∧ r ≤ t.size ∧ CBox wr B p r kd ∧ Hid (Kept t w u5 k wr) ∧ Hid (kd ≠ 1 → r = p + 1) ∧ Hid (∀ m, p < m → m < r → accB (bt t m) = true)) (fun _ wr => t.size - toOf B wr)
      case atStart => exact ⟨p + 1, by omega, by omega, by omega, hb1, hk1, fun _ => rfl, fun m _ _ => by omega⟩
      case round =>
        obtain ⟨r, hr1, hr2, hr3, hbx, hkp, hr4, hall⟩ := hrel
        obtain ⟨c0, c1, c2⟩ := hbx.cells
        by_cases h1 : kd = 1
        · have f0 : (kd == 1) = true := by simpa using h1
          by_cases hlt2 : r < t.size
          · have f1 : (r : Int) < t.size := by omega
            by_cases h3 : r = p + 3
            · have hqr := hE3.out r h1 hr1 hr2 hall.out (.inl h3)
              have f2 : ¬ (r : Int) < p + 3 := by omega
              clear h1 h3 hE2 hE3 hall hr4
              subst hqr
              go_wp2_with (at_builtin; refine wpList_append_any _ rfl _ _ 116 rfl w.heap.size 120 i0 _ 3 24 Try.underlying116 hi hz0 hz1 hz2 rfl (by decide) _ k (rowC t k) rfl (by exact hkp.out.row.alloc _) 1 _ _ rfl (by exact src_one wr [.int .i64 (p : Nat), .int .i64 (q : Nat), .int .i64 kd] 120 rfl (by intro u hu; simp at hu; rcases hu with rfl | rfl | rfl <;> rfl)) (by unfold maxLen; omega) (by omega) (by have := hkp.out.below.size; simp; omega) ?_; intro v' w2 hown hgrow; have hbx2 : CBox w2 B p q kd := (hgrow.block B (by have := (Array.getElem?_eq_some_iff.1 hbx).1; simp; omega) (fun e => hne.out e.symm)).trans ((Below.heap_alloc _ _ _ (Array.getElem?_eq_some_iff.1 hbx).1).trans hbx); have d1 := hbx2.cells.2.1)
              have hkp2 : Kept t w v' (k + 1) w2 := ⟨by rw [hrow1.out]; exact hown, below_grown (hkp.out.below.alloc hkp.out.below.size _) (hkp.out.row.alloc _) (Nat.le_refl _) (Nat.le_refl _) hgrow⟩
              go_roundw
              case rel => exact ⟨k + 1, hkn, by rw [hq.out], hkp2⟩
              case measure => simp [intOf]; omega
            · have f2 : (r : Int) < p + 3 := by omega
              cases hv : accB (bt t r)
              · have hqr := hE3.out r h1 hr1 hr2 hall.out (.inr hv)
                have hbr := bt_eq hlt2
                rw [hbr] at hv
                clear h1 hE2 hE3 hall hr4 hbr h3
                subst hqr
                go_wp2_with (first | (go_at_call 81; refine (hA _ _).mono ?_; rw [hv]; rintro e w' ⟨rfl, hww⟩; subst w') | (at_builtin; refine wpList_append_any _ rfl _ _ 116 rfl w.heap.size 120 i0 _ 3 24 Try.underlying116 hi hz0 hz1 hz2 rfl (by decide) _ k (rowC t k) rfl (by exact hkp.out.row.alloc _) 1 _ _ rfl (by exact src_one wr [.int .i64 (p : Nat), .int .i64 (q : Nat), .int .i64 kd] 120 rfl (by intro u hu; simp at hu; rcases hu with rfl | rfl | rfl <;> rfl)) (by unfold maxLen; omega) (by omega) (by have := hkp.out.below.size; simp; omega) ?_; intro v' w2 hown hgrow; have hbx2 : CBox w2 B p q kd := (hgrow.block B (by have := (Array.getElem?_eq_some_iff.1 hbx).1; simp; omega) (fun e => hne.out e.symm)).trans ((Below.heap_alloc _ _ _ (Array.getElem?_eq_some_iff.1 hbx).1).trans hbx); have d1 := hbx2.cells.2.1))
                have hkp2 : Kept t w v' (k + 1) w2 := ⟨by rw [hrow1.out]; exact hown, below_grown (hkp.out.below.alloc hkp.out.below.size _) (hkp.out.row.alloc _) (Nat.le_refl _) (Nat.le_refl _) hgrow⟩
                go_roundw
                case rel => exact ⟨k + 1, hkn, by rw [hq.out], hkp2⟩
                case measure => simp [intOf]; omega
              · have hyes : Hid (∀ m, p < m → m < r + 1 → accB (bt t m) = true) := fun m h1 h2 => by
                  by_cases h : m < r
                  · exact hall.out m h1 h
                  · obtain rfl : m = r := by omega
                    exact hv
                have hbr := bt_eq hlt2
                rw [hbr] at hv
                have hbx2 := hbx.set ((r : Int) + 1)
                have hkp2 : Hid (Kept t w u5 k (wr.setCell ⟨B, 1, none⟩ (.int .i64 ((r : Int) + 1)))) := hkp.out.set hks hne.out 1 _
                have hm0 : Hid (toOf B wr = r) := toOf_box hbx
                have hm1 : Hid (toOf B (wr.setCell ⟨B, 1, none⟩ (.int .i64 ((r : Int) + 1))) = r + 1) := toOf_box (b := r + 1) hbx2
                have hfz : wr.frozen? ⟨B, 1, none⟩ = false := Lib.frozen_of_heap hbx 1
                have h1' : Hid (kd = 1) := h1
                clear h1 hE2 hE3 hall hr4 hbr h3
                go_wp2_with (go_at_call 81; refine (hA _ _).mono ?_; rw [hv]; rintro e w' ⟨rfl, hww⟩; subst w')
                go_roundw
                case rel => exact ⟨r + 1, by omega, by omega, by omega, hbx2, hkp2, fun h => absurd h1'.out h, hyes⟩
                case measure => rw [hm0.out, hm1.out]; omega
          · have hv : accB (bt t r) = false := by rw [bt_no hlt2]; decide
            have f1 : ¬ (r : Int) < t.size := by omega
            have hqr := hE3.out r h1 hr1 hr2 hall.out (.inr hv)
            clear h1 hE2 hE3 hall hr4 hv
            subst hqr
            go_wp2_with (at_builtin; refine wpList_append_any _ rfl _ _ 116 rfl w.heap.size 120 i0 _ 3 24 Try.underlying116 hi hz0 hz1 hz2 rfl (by decide) _ k (rowC t k) rfl (by exact hkp.out.row.alloc _) 1 _ _ rfl (by exact src_one wr [.int .i64 (p : Nat), .int .i64 (q : Nat), .int .i64 kd] 120 rfl (by intro u hu; simp at hu; rcases hu with rfl | rfl | rfl <;> rfl)) (by unfold maxLen; omega) (by omega) (by have := hkp.out.below.size; simp; omega) ?_; intro v' w2 hown hgrow; have hbx2 : CBox w2 B p q kd := (hgrow.block B (by have := (Array.getElem?_eq_some_iff.1 hbx).1; simp; omega) (fun e => hne.out e.symm)).trans ((Below.heap_alloc _ _ _ (Array.getElem?_eq_some_iff.1 hbx).1).trans hbx); have d1 := hbx2.cells.2.1)
            have hkp2 : Kept t w v' (k + 1) w2 := ⟨by rw [hrow1.out]; exact hown, below_grown (hkp.out.below.alloc hkp.out.below.size _) (hkp.out.row.alloc _) (Nat.le_refl _) (Nat.le_refl _) hgrow⟩
            go_roundw
            case rel => exact ⟨k + 1, hkn, by rw [hq.out], hkp2⟩
            case measure => simp [intOf]; omega
        · have f0 : (kd == 1) = false := by simpa using h1
          have hqr : q = r := (hE2.out h1).trans (hr4.out h1).symm
          clear h1 hE2 hE3 hall hr4
          subst hqr
          go_wp2_with (at_builtin; refine wpList_append_any _ rfl _ _ 116 rfl w.heap.size 120 i0 _ 3 24 Try.underlying116 hi hz0 hz1 hz2 rfl (by decide) _ k (rowC t k) rfl (by exact hkp.out.row.alloc _) 1 _ _ rfl (by exact src_one wr [.int .i64 (p : Nat), .int .i64 (q : Nat), .int .i64 kd] 120 rfl (by intro u hu; simp at hu; rcases hu with rfl | rfl | rfl <;> rfl)) (by unfold maxLen; omega) (by omega) (by have := hkp.out.below.size; simp; omega) ?_; intro v' w2 hown hgrow; have hbx2 : CBox w2 B p q kd := (hgrow.block B (by have := (Array.getElem?_eq_some_iff.1 hbx).1; simp; omega) (fun e => hne.out e.symm)).trans ((Below.heap_alloc _ _ _ (Array.getElem?_eq_some_iff.1 hbx).1).trans hbx); have d1 := hbx2.cells.2.1)
          have hkp2 : Kept t w v' (k + 1) w2 := ⟨by rw [hrow1.out]; exact hown, below_grown (hkp.out.below.alloc hkp.out.below.size _) (hkp.out.row.alloc _) (Nat.le_refl _) (Nat.le_refl _) hgrow⟩
          go_roundw
          case rel => exact ⟨k + 1, hkn, by rw [hq.out], hkp2⟩
          case measure => simp [intOf]; omega
    · have hkn : k = num t := by
        by_cases h : k < num t
        · exact absurd (num_lt h) hlt
        · omega
      have f1 : ¬ (st t k : Int) < t.size := by omega
      subst hkn
      go_wp2_with fail
      go_ret2
      exact ⟨_, rfl, hkp.out.row, hkp.out.below⟩
end Go.Proofs.Ytkhnfmdhdfpdhaa
