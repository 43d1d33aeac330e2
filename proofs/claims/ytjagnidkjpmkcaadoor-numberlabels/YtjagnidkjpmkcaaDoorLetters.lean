/-
  What is proved here: what slices.Insert does that puts one byte ahead of any row of bytes of the call's own; and what letters tells: the number in letters.
-/
import Derived.Test.YtjagnidkjpmkcaaDoorInsert
import Derived.Test.YtjagnidkjpmkcaaDoorShelf
import Derived.Laws.IdiomStrings
namespace Go.Proofs.YtjagnidkjpmkcaaDoor
open Go.RowKit Go.Shelf Go.Lib

theorem one_u8 {l : List UInt8} : ∀ u ∈ Lib.byteCells l, u.oneCell' = true := by
  intro u hu
  simp [Lib.byteCells] at hu
  obtain ⟨x, _, rfl⟩ := hu
  rfl

set_option maxHeartbeats 4000000 in
set_option maxRecDepth 100000 in
theorem insert_empty (B : Nat) (v : Value) (x : Value) (vb : Nat) (w : World) (hx1 : x.oneCell' = true) (hown : w.ownsRow B 5 1 v 0 []) (hvb : w.heap[vb]? = some (.cells #[x] 5 (0, 0))) (hB : B ≤ w.heap.size) :
    Calls Tryd.prog 36 #[v, .int .i64 0, .slice (some ⟨vb, 0, none⟩) 1 1] w fun e w' =>
      ∃ v', e = .returned v' ∧ w'.ownsRow B 5 1 v' [x].length [x] ∧ Below B w w' := by
  obtain ⟨i0, hi, hz0, hz1, hz2⟩ := info_parts info5
  have hc : w.cell? ⟨vb, 0, none⟩ = some x := by rw [Lib.cell_of_heap hvb]; rfl
  have hsrc : Srcs w 1 (.slice (some ⟨vb, 0, none⟩) 1 1) 1 [x] := ⟨rfl, fun u hu => by simp at hu; rw [hu]; exact hx1, .inr ⟨_, _, rfl, fun j u hj => by
    cases j with
    | zero => rw [addr_add0, hc]; simpa using hj
    | succ j => simp at hj⟩⟩
  have hown' := hown
  rcases hown.2 with ⟨rfl, _⟩ | ⟨g, cap, cur, rfl, hbg, hg, hnc, hcm, hcs, _⟩
  · go_enter Tryd.func36, Tryd.ntmps36
    go_wp2_with (at_builtin; refine wpList_append_any _ rfl _ _ 58 rfl B 5 i0 _ 1 1 Tryd.underlying58 hi hz0 hz1 hz2 rfl (by decide) _ 0 [] rfl hown' 1 [x] _ rfl hsrc (by unfold maxLen; omega) (by omega) hB ?_)
    intro v' w' q1 q2
    go_wp2_with fail
    go_ret
    exact ⟨_, rfl, q1, below_grown (Below.refl B w) hown' hB (Nat.le_refl _) q2⟩
  · go_enter Tryd.func36, Tryd.ntmps36
    go_wp2_with (at_builtin; refine wpList_append_any _ rfl _ _ 58 rfl B 5 i0 _ 1 1 Tryd.underlying58 hi hz0 hz1 hz2 rfl (by decide) _ 0 [] rfl hown' 1 [x] _ rfl hsrc (by unfold maxLen; omega) (by omega) hB ?_)
    intro v' w' q1 q2
    go_wp2_with fail
    go_ret
    exact ⟨_, rfl, q1, below_grown (Below.refl B w) hown' hB (Nat.le_refl _) q2⟩

theorem insert_any (B : Nat) (v : Value) (x : Value) (xs : List Value) (vb : Nat) (w : World) (hx1 : x.oneCell' = true) (h1 : ∀ u ∈ xs, u.oneCell' = true) (hsm : xs.length ≤ 1000000) (hown : w.ownsRow B 5 1 v xs.length xs) (hvb : w.heap[vb]? = some (.cells #[x] 5 (0, 0))) (hne : v.ownBlock ≠ some vb) (hB : B ≤ w.heap.size) :
    Calls Tryd.prog 36 #[v, .int .i64 0, .slice (some ⟨vb, 0, none⟩) 1 1] w fun e w' =>
      ∃ v', e = .returned v' ∧ w'.ownsRow B 5 1 v' (x :: xs).length (x :: xs) ∧ Below B w w' := by
  cases xs with
  | nil => exact insert_empty B v x vb w hx1 hown hvb hB
  | cons y ys =>
    rcases hown.2 with ⟨_, h⟩ | ⟨g, cap, cur, rfl, hbg, hg, hnc, hcm, hcs, htk⟩
    · simp at h
    · have hcell : ∀ j u, (y :: ys)[j]? = some u → w.cell? ⟨g, j, none⟩ = some u := fun j u hj => by
        have := hown.cells (g := g) rfl j u hj
        rwa [addr_add0] at this
      by_cases hr : (y :: ys).length + 1 ≤ cap
      · exact insert_room B g cap x (y :: ys) vb w hx1 h1 (by simp) hr hcm cur hg (by simpa using hcs) hcell hvb (fun e => hne (by rw [e]; rfl)) hbg
      · obtain rfl : cap = (y :: ys).length := by omega
        exact insert_grow B g x (y :: ys) vb w hx1 h1 (by simp) hsm hcell (Array.getElem?_eq_some_iff.1 hg).1 hvb hB

theorem conv_own {W : World} {B : Nat} {v : Value} {l : List UInt8} (h : W.ownsRow B 5 1 v (Lib.byteCells l).length (Lib.byteCells l)) : (convert 58 9 v).run Tryd.prog W = .ok (.string ⟨l.toArray⟩) W := by
  rcases h.2 with ⟨rfl, h0⟩ | ⟨g, cap, cur, rfl, _⟩
  · obtain rfl : l = [] := List.eq_nil_of_length_eq_zero (by simpa [Lib.byteCells] using h0)
    rw [run_convert_bytes_string W 58 9 5 none 0 0 Tryd.underlying58 Tryd.underlying5 Tryd.underlying9]
    rfl
  · have := run_convert_bytes_back (P := Tryd.prog) W 58 9 5 ⟨g, 0, none⟩ cap l Tryd.underlying58 Tryd.underlying5 Tryd.underlying9 (fun j hj => by
      exact h.cells (g := g) rfl j _ (by simp [Lib.byteCells, hj]))
    have e : (Lib.byteCells l).length = l.length := by simp [Lib.byteCells]
    rw [e]
    exact this

theorem byte_of {k : Nat} (h : 0 < k) : Value.int IntKind.u8 (97 + ((k : Int) - 1) % 26) = Value.int .u8 ((UInt8.ofNat (97 + (k - 1) % 26)).toNat) := by
  rw [UInt8.toNat_ofNat_of_lt' (show 97 + (k - 1) % 26 < 2 ^ 8 by omega)]
  congr 1
  omega

set_option maxHeartbeats 4000000 in
set_option maxRecDepth 100000 in
theorem letters_any (n : Nat) (hn : n ≤ 3999) (w : World) :
    Calls Tryd.prog 32 #[.int .i64 n] w fun e w' => e = .returned (.string ⟨(lettersN n).toArray⟩) ∧ Below w.heap.size w w' := by
  go_enter Tryd.func32, Tryd.ntmps32
  go_wp2_with fail
  go_loopw [0, 3] (fun i v wr => ∃ (k : Nat) (l : List UInt8), k ≤ 3999 ∧ i = .int .i64 k ∧ wr.ownsRow w.heap.size 5 1 v (Lib.byteCells l).length (Lib.byteCells l) ∧ l.length ≤ 3999 - k ∧ Below w.heap.size w wr ∧ Hid (lettersN k ++ l = lettersN n)) (fun i _ _ => (RowKit.intOf i).toNat)
  case atStart => exact ⟨n, [], hn, rfl, World.ownsRow_nil _ _ _ _, by simp, Below.refl _ _, by simp [Hid]⟩
  case round =>
    obtain ⟨k, l, hk, rfl, hrow, hll, hb, hl⟩ := hrel
    by_cases h0 : k = 0
    · have hz : ¬ ((0 : Int) < k) := by omega
      have hfin : Hid (l = lettersN n) := by
        have := hl.out
        rw [h0, lettersN_zero] at this
        exact this
      have hcv := conv_own hrow
      go_wp2_with fail
      go_ret
      exact ⟨by rw [← hfin.out]; rfl, hb⟩
    · have hk0 : (0 : Int) < k := by omega
      have hx := byte_of (k := k) (by omega)
      have hlen : (Lib.byteCells l).length ≤ 1000000 := by simp [Lib.byteCells]; omega
      have hlt : ∀ g, u3.ownBlock = some g → g < wr.heap.size := fun g hg => (hrow.lt g hg).2
      have hrow1 := hrow.alloc (.cells #[Value.int IntKind.u8 (97 + ((k : Int) - 1) % 26)] 5)
      have hins := insert_any w.heap.size u3 (Value.int IntKind.u8 (97 + ((k : Int) - 1) % 26)) (Lib.byteCells l) wr.heap.size (wr.alloc (.cells #[Value.int IntKind.u8 (97 + ((k : Int) - 1) % 26)] 5)) rfl one_u8 hlen hrow1 (heap_new wr _) (fun e => by have := hlt _ e; omega) (by have := hb.size; simp; omega)
      have hba := hb.alloc hb.size (.cells #[Value.int IntKind.u8 (97 + ((k : Int) - 1) % 26)] 5)
      have hnext : Hid (lettersN ((k - 1) / 26) ++ (UInt8.ofNat (97 + (k - 1) % 26) :: l) = lettersN n) := by
        show _ = _
        rw [← hl.out, lettersN_pos (n := k) (by omega)]
        simp
      have HX : Hid (_ = _) := hx
      clear hx hl
      go_wp2_with (go_at_call 36; refine hins.mono ?_; rintro e w' ⟨v', rfl, q1, q2⟩)
      go_roundw
      case rel =>
        refine ⟨(k - 1) / 26, UInt8.ofNat (97 + (k - 1) % 26) :: l, by omega, by congr 1; omega, ?_, by simp; omega, hba.trans q2, hnext⟩
        rw [HX.out] at q1
        exact q1
      case measure => simp [RowKit.intOf]; omega

end Go.Proofs.YtjagnidkjpmkcaaDoor
