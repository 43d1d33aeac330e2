/-
  What is proved here: the counts of lists, paragraph by paragraph (no program is spoken of), as they lie in memory; and what add does to them.
-/
import Derived.Test.YtjagnidkjpmkcaaDoorAdd
namespace Go.Proofs.YtjagnidkjpmkcaaDoor
open Go.RowKit Go.Shelf

/-- The counts behind a paragraph on a level. -/
def up (c : Nat → Nat) (lv : Nat) : Nat → Nat := fun k => if k < lv then c k else if k = lv then c k + 1 else 0
/-- The counts of a list behind paragraphs. -/
def cnt (ls : List En) (q : Nat) : Nat → Nat := ls.foldl (fun c x => if x.1 = (q : Int) + 1 then up c x.2.toNat else c) (fun _ => 0)

theorem cnt_nil (q : Nat) : cnt [] q = fun _ => 0 := rfl
theorem cnt_snoc (ls : List En) (x : En) (q : Nat) : cnt (ls ++ [x]) q = if x.1 = (q : Int) + 1 then up (cnt ls q) x.2.toNat else cnt ls q := by simp [cnt]
theorem up_le (c : Nat → Nat) (lv k m : Nat) (h : ∀ k, c k ≤ m) : up c lv k ≤ m + 1 := by
  have := h k
  unfold up
  split
  · omega
  · split
    · omega
    · omega
theorem fold_le (q : Nat) : ∀ (ls : List En) (c : Nat → Nat) (m : Nat), (∀ k, c k ≤ m) → ∀ k, ls.foldl (fun c x => if x.1 = (q : Int) + 1 then up c x.2.toNat else c) c k ≤ m + ls.length
  | [], c, m, h, k => h k
  | x :: r, c, m, h, k => by
    have := fold_le q r (if x.1 = (q : Int) + 1 then up c x.2.toNat else c) (m + 1) (fun k => by
      split
      · exact up_le c _ k m h
      · have := h k; omega) k
    simp only [List.foldl_cons, List.length_cons]
    omega
theorem cnt_le (q : Nat) (ls : List En) (k : Nat) : cnt ls q k ≤ ls.length := by
  have := fold_le q ls (fun _ => 0) 0 (fun _ => Nat.le_refl _) k
  simpa [cnt] using this
theorem cnt_take (ls : List En) {i : Nat} (h : i < ls.length) (q : Nat) : cnt (ls.take (i + 1)) q = if ls[i].1 = (q : Int) + 1 then up (cnt (ls.take i) q) ls[i].2.toNat else cnt (ls.take i) q := by
  rw [List.take_succ_eq_append_getElem h, cnt_snoc]

/-- The counts, in memory. -/
structure CAt (W : World) (b : Nat) (ls : List En) : Prop where
  ex : ∃ cur, W.heap[b]? = some (.cells cur 54 (0, 0)) ∧ cur.size = 32 ∧ ∀ q lv, q < 8 → lv < 4 → cur[q * 4 + lv]? = some (.int .i64 (cnt ls q lv))

theorem CAt.same {W W' : World} {b : Nat} {ls : List En} (h : CAt W b ls) (hb : W'.heap[b]? = W.heap[b]?) : CAt W' b ls := by
  obtain ⟨cur, h1, h2⟩ := h.ex
  exact ⟨cur, hb.trans h1, h2⟩

theorem CAt.lt {W : World} {b : Nat} {ls : List En} (h : CAt W b ls) : b < W.heap.size := by
  obtain ⟨cur, h1, _⟩ := h.ex
  exact (Array.getElem?_eq_some_iff.1 h1).1

theorem But.belowB {b : Nat} {w w' : World} (h : But b (.slice none 0 0) w w') (hb : b < w.heap.size) : Below b w w' :=
  ⟨h.os, h.tape, h.output, h.size, fun k hk => h.block k (by omega) (by omega) (fun e => by cases e)⟩

theorem add_any (b : Nat) (ls : List En) (i : Nat) (hi : i < ls.length) (hlen : ls.length ≤ 4000) (q lv : Nat) (hq : q < 8) (hlv : lv < 4) (h1 : ls[i].1 = (q : Int) + 1) (h2 : ls[i].2 = lv) (w : World) (h : CAt w b (ls.take i)) :
    Calls Tryd.prog 28 #[.pointer (some ⟨b, 0, none⟩), .agg #[.int .i64 ls[i].1, .int .i64 ls[i].2]] w fun e w' => e = .returned (.int .i64 (cnt (ls.take (i + 1)) q lv)) ∧ CAt w' b (ls.take (i + 1)) ∧ But b (.slice none 0 0) w w' := by
  obtain ⟨cur, hb, hs, hc⟩ := h.ex
  have hle : cnt (ls.take i) q lv < 100000 := by have := cnt_le q (ls.take i) lv; rw [List.length_take] at this; omega
  have hc1 := hc q lv hq hlv
  have hres : cnt (ls.take (i + 1)) q lv = cnt (ls.take i) q lv + 1 := by
    rw [cnt_take ls hi, if_pos h1, h2]; unfold up; rw [Int.toNat_natCast, if_neg (by omega), if_pos rfl]
  have hgo : ∀ cur' : Array Value, upA cur cur' q lv (cnt (ls.take i) q lv) → ∀ q' lv', q' < 8 → lv' < 4 → cur'[q' * 4 + lv']? = some (.int .i64 (cnt (ls.take (i + 1)) q' lv')) := fun cur' hu q' lv' hq' hlv' => by
    rw [hu.2]
    by_cases e1 : q' = q
    · subst e1
      rw [cnt_take ls hi, if_pos h1, h2, Int.toNat_natCast]
      unfold up
      by_cases e2 : lv' = lv
      · subst e2; rw [if_pos rfl, if_neg (by omega), if_pos rfl]; rfl
      · rw [if_neg (by omega)]
        by_cases e3 : lv' < lv
        · rw [if_neg (by omega), if_pos e3]; exact hc q' lv' hq' hlv'
        · rw [if_pos (by omega), if_neg e3, if_neg e2]; rfl
    · rw [if_neg (by omega), if_neg (by omega), cnt_take ls hi, if_neg (by rw [h1]; omega)]
      exact hc q' lv' hq' hlv'
  rw [h1, h2, hres]
  have h4 : lv = 0 ∨ lv = 1 ∨ lv = 2 ∨ lv = 3 := by omega
  rcases h4 with rfl | rfl | rfl | rfl
  · refine (add_0 b q _ hq hle cur 54 w hb hs hc1).mono ?_
    rintro e w' ⟨rfl, ⟨cur', k1, k2⟩, k3⟩
    exact ⟨rfl, ⟨cur', k1, k2.1, hgo cur' k2⟩, k3⟩
  · refine (add_1 b q _ hq hle cur 54 w hb hs hc1).mono ?_
    rintro e w' ⟨rfl, ⟨cur', k1, k2⟩, k3⟩
    exact ⟨rfl, ⟨cur', k1, k2.1, hgo cur' k2⟩, k3⟩
  · refine (add_2 b q _ hq hle cur 54 w hb hs hc1).mono ?_
    rintro e w' ⟨rfl, ⟨cur', k1, k2⟩, k3⟩
    exact ⟨rfl, ⟨cur', k1, k2.1, hgo cur' k2⟩, k3⟩
  · refine (add_3 b q _ hq hle cur 54 w hb hs hc1).mono ?_
    rintro e w' ⟨rfl, ⟨cur', k1, k2⟩, k3⟩
    exact ⟨rfl, ⟨cur', k1, k2.1, hgo cur' k2⟩, k3⟩

end Go.Proofs.YtjagnidkjpmkcaaDoor
