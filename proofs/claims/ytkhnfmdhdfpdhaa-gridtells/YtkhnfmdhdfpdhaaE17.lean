/-
  What is proved here: a room that is shared out evenly.
  What is proved here: a room that is shared out among columns that grow.
-/
import Derived.Test.YtkhnfmdhdfpdhaaE16
namespace Go.Proofs.Ytkhnfmdhdfpdhaa
open Go.RowKit Go.Shelf

def ints (l : List Int) : List Value := l.map (Value.int .i64)
/-- Numbers that fill a block. -/
def IBk (W : World) (g : Nat) (l : List Int) : Prop := W.heap[g]? = some (.cells (ints l).toArray 3 (0, 0))
theorem IBk.lt {W : World} {g : Nat} {l : List Int} (h : IBk W g l) : g < W.heap.size := (Array.getElem?_eq_some_iff.1 h).1
theorem IBk.cell {W : World} {g : Nat} {l : List Int} (h : IBk W g l) {k : Nat} (hk : k < l.length) : W.cell? ⟨g, k, none⟩ = some (.int .i64 (l[k]'hk)) ∧ W.frozen? ⟨g, k, none⟩ = false := by
  refine ⟨?_, Lib.frozen_of_heap h _⟩
  rw [Lib.cell_of_heap h]
  simp [ints, hk]
theorem IBk.set {W : World} {g : Nat} {l : List Int} (h : IBk W g l) (k : Nat) (x : Int) : IBk (W.setCell ⟨g, k, none⟩ (.int .i64 x)) g (l.set k x) := by
  have := heap_setCell_same W g k (ints l).toArray 3 (.int .i64 x) h
  unfold IBk
  rw [this]
  congr 2
  apply Array.ext'
  simp [ints, List.map_set]
theorem IBk.turns {W W' : World} {g : Nat} {l : List Int} (h : IBk W g l) {X : Nat → Prop} (ht : Turns X W W') (hX : ¬ X g) : IBk W' g l := (ht.block g h.lt hX).trans h
theorem IBk.below {W W' : World} {g : Nat} {l : List Int} (h : IBk W g l) {n : Nat} (hb : Below n W W') (hn : g < n) : IBk W' g l := (hb.block g hn).trans h
def inL (x : Int) : List Value := [.int .i64 x]
theorem inL_map (l : List Int) : l.flatMap inL = ints l := by
  induction l with
  | nil => rfl
  | cons x l ih => rw [List.flatMap_cons, ih]; rfl
/-- A list of numbers in memory. -/
abbrev InAt (W : World) (v : Value) (l : List Int) : Prop := RecAt 1 inL W v l
theorem IBk.at {W : World} {g : Nat} {l : List Int} (h : IBk W g l) : InAt W (.slice (some ⟨g, 0, none⟩) l.length l.length) l := by
  refine ⟨⟨_, _, rfl, .inr ⟨g, 0, rfl, h.lt, fun i hi j u hu => ?_⟩⟩, fun a n c e => by cases e; exact Nat.le_refl _⟩
  cases j with
  | zero =>
    simp [inL] at hu
    subst hu
    have := (h.cell hi).1
    rw [show (0 + i * 1 + 0) = i by omega, this]
  | succ j => simp [inL] at hu
theorem madeI (n : Nat) : madeCells #[.int .i64 0] n = (ints (List.replicate n 0)).toArray := by
  apply Array.ext
  · simp [madeCells, ints]
  · intro i h1 h2
    simp [madeCells, ints, Nat.mod_one]
theorem make26 {n : Nat} (h : n ≤ 400) (W : World) : (Instr.makeSlice 26 (.int .i64 (n : Int)) (.int .i64 (n : Int))).run Try.prog W = .ok (.slice (some ⟨W.heap.size, 0, none⟩) n n) (W.alloc (.cells (ints (List.replicate n 0)).toArray 3)) := by
  obtain ⟨i9, hi⟩ := Option.isSome_iff_exists.1 (show (Try.prog.info? 3).isSome = true by kernel_rfl)
  have hz0 : i9.zero = some (.int .i64 0) := by
    have h : (Try.prog.info? 3).map (·.zero) = some (some (.int .i64 0)) := by kernel_rfl
    rw [hi] at h; simpa using h
  have hz1 : i9.size = 1 := by
    have h : (Try.prog.info? 3).map (·.size) = some 1 := by kernel_rfl
    rw [hi] at h; simpa using h
  have hz2 : i9.bytes = 8 := by
    have h : (Try.prog.info? 3).map (·.bytes) = some 8 := by kernel_rfl
    rw [hi] at h; simpa using h
  have := run_makeSlice (P := Try.prog) (w := W) 26 3 i9 _ Try.underlying26 hi hz0 .i64 .i64 n n (by omega) (by omega) (by rw [hz1]; omega) (by rw [hz2]; omega) (by omega)
  rw [hz1, Int.toNat_natCast, Nat.mul_one] at this
  rw [← madeI]
  exact this

/-- The first k numbers of n are there, the others are naught. -/
def upto (f : Nat → Int) (n k : Nat) : List Int := (List.range k).map f ++ List.replicate (n - k) 0
theorem upto_len {f : Nat → Int} {n k : Nat} (h : k ≤ n) : (upto f n k).length = n := by simp [upto]; omega
theorem upto_zero (f : Nat → Int) (n : Nat) : upto f n 0 = List.replicate n 0 := by simp [upto]
theorem upto_all (f : Nat → Int) (n : Nat) : upto f n n = (List.range n).map f := by simp [upto]
theorem upto_set {f : Nat → Int} {n k : Nat} (h : k < n) : (upto f n k).set k (f k) = upto f n (k + 1) := by
  unfold upto
  rw [List.set_append_right _ _ (by simp), List.range_succ, List.map_append]
  obtain ⟨m, hm⟩ : ∃ m, n - k = m + 1 := ⟨n - k - 1, by omega⟩
  rw [hm, show n - (k + 1) = m by omega]
  simp [List.replicate_succ]
theorem upto_get {f : Nat → Int} {n k : Nat} (h : k < n) : ∃ hk : k < (upto f n k).length, (upto f n k)[k] = 0 := by
  refine ⟨by rw [upto_len (by omega)]; exact h, ?_⟩
  simp only [upto]
  rw [List.getElem_append_right (by simp)]
  simp

/-- A room in even parts. -/
def evF (c : Nat) (q : Int) (i : Nat) : Int := gv q c ((i + 1 : Nat) : Int) - gv q c (i : Int)
def evL (c : Nat) (q : Int) : List Int := (List.range c).map (evF c q)
theorem gv_zero (r p : Int) : gv r p 0 = 0 := by unfold gv; simp
theorem gv_rng {r p t : Int} (hr : 0 ≤ r) (ht : 0 ≤ t) : 0 ≤ gv r p t ∧ gv r p t ≤ r * t := by
  have h0 : 0 ≤ r * t := Int.mul_nonneg hr ht
  exact ⟨Int.ediv_nonneg h0 (by omega), Int.ediv_le_self _ h0⟩

set_option maxRecDepth 100000 in
set_option maxHeartbeats 2000000 in
theorem evenly_any (c : Nat) (q : Int) (hc : 1 ≤ c ∧ c ≤ 8) (hq : 0 ≤ q ∧ q ≤ 4095) (w : World) :
    Calls Try.prog 31 #[.int .i64 c, .int .i64 q] w fun e w' => ∃ b, w.heap.size ≤ b ∧ e = .returned (.slice (some ⟨b, 0, none⟩) c c) ∧ IBk w' b (evL c q) ∧ Below w.heap.size w w' := by
  have hc1 := hc.1
  have hc2 := hc.2
  have hZ := SH.new w 0 0 0 0
  have hT1 := Turns.setRow (X := fun b => b = w.heap.size) (w.alloc (.cells #[.int .i64 0, .int .i64 0, .int .i64 0, .int .i64 0] 91)) (r := w.heap.size) rfl #[.int .i64 q, .int .i64 c, .int .i64 0, .int .i64 0]
  have hB0 := (Below.refl w.heap.size w).alloc (Nat.le_refl _) (.cells #[.int .i64 0, .int .i64 0, .int .i64 0, .int .i64 0] 91)
  have hB1 : Below w.heap.size w ((w.alloc (.cells #[.int .i64 0, .int .i64 0, .int .i64 0, .int .i64 0] 91)).setRow w.heap.size #[.int .i64 q, .int .i64 c, .int .i64 0, .int .i64 0]) := hB0.trans (hT1.below hB0.size (fun k hk => by omega))
  have hS1 : SH ((w.alloc (.cells #[.int .i64 0, .int .i64 0, .int .i64 0, .int .i64 0] 91)).setRow w.heap.size #[.int .i64 q, .int .i64 c, .int .i64 0, .int .i64 0]) w.heap.size q c 0 0 := ⟨setRow_heap _ _ _ _ 91 _ hZ.row⟩
  clear hT1 hB0
  go_enter Try.func31, Try.ntmps31
  go_wp2_with (refine wpList_store_row rfl 91 _ _ rfl w.heap.size #[.int .i64 q, .int .i64 c, .int .i64 0, .int .i64 0] rfl rfl 91 _ hZ.row (info91 _ _ _ _) rfl (one91 _ _ _ _) ?_; clear hZ; generalize (w.alloc (.cells #[.int .i64 0, .int .i64 0, .int .i64 0, .int .i64 0] 91)).setRow w.heap.size #[.int .i64 q, .int .i64 c, .int .i64 0, .int .i64 0] = w1 at *; have hmk := make26 (n := c) (by omega) w1)
  have hI : IBk (w1.alloc (.cells (ints (List.replicate c 0)).toArray 3)) w1.heap.size (upto (evF c q) c 0) := by rw [upto_zero]; exact World.alloc_heap_new w1 _
  have hS2 := hS1.turns (Turns.alloc Noth w1 (.cells (ints (List.replicate c 0)).toArray 3)) (fun h => h)
  have hB2 := hB1.alloc hB1.size (.cells (ints (List.replicate c 0)).toArray 3)
  have hne : w.heap.size < w1.heap.size := hS1.lt
  generalize w1.alloc (.cells (ints (List.replicate c 0)).toArray 3) = w2 at *
  obtain ⟨T, hT⟩ : ∃ T, w1.heap.size = T := ⟨_, rfl⟩
  rw [hT] at hmk hI hne ⊢
  obtain ⟨B, hB⟩ : ∃ B, w.heap.size = B := ⟨_, rfl⟩
  rw [hB] at hB2 hS2 hne ⊢
  clear hT hS1 hB1 hmk
  go_loopw [15] (fun i wr => ∃ k : Nat, k ≤ c ∧ i = .int .i64 (k : Int) ∧ Below B w wr ∧ SH wr B q c (k : Int) (gv q c (k : Int)) ∧ Hid (IBk wr T (upto (evF c q) c k))) (fun i _ => c - (intOf i).toNat)
  case atStart => exact ⟨0, by omega, rfl, hB2, by rw [show ((0 : Nat) : Int) = 0 from rfl, gv_zero]; exact hS2, hI⟩
  case round =>
    clear hI hS2 hB2
    obtain ⟨k, hk, rfl, hb, hr, hi⟩ := hrel
    by_cases hlt : k < c
    · have hlt' : (k : Int) < c := by omega
      have hg := gv_rng (r := q) (p := c) (t := k) hq.1 (by omega)
      have hg2 : q * (k : Int) ≤ 4095 * 8 := Int.mul_le_mul hq.2 (by omega) (by omega) (by omega)
      have hN := next_any B q c k (gv q c k) 1 (by omega) (by omega) (by omega) (by omega) (by omega) wr hr
      have hend : ∀ w2, Turns (fun k => k = B) wr w2 → w2.cell? ⟨T, k, none⟩ = some (.int .i64 0) ∧ w2.frozen? ⟨T, k, none⟩ = false ∧ Hid (∀ y, y = evF c q k → IBk (w2.setCell ⟨T, k, none⟩ (.int .i64 y)) T (upto (evF c q) c (k + 1))) ∧ ∀ y, Below B w (w2.setCell ⟨T, k, none⟩ (.int .i64 y)) := fun w2 ht => by
        have hi2 := hi.out.turns ht (by omega)
        obtain ⟨hkl, hk0⟩ := upto_get (f := evF c q) hlt
        have := hi2.cell hkl
        rw [hk0] at this
        refine ⟨this.1, this.2, ?_, fun y => ?_⟩
        · rintro y rfl
          rw [← upto_set hlt]
          exact hi2.set k _
        · exact (hb.trans (ht.below (by have := hb.size; omega) (fun k hk => by omega))).setCell (p := ⟨T, k, none⟩) (by show B ≤ T; omega) _
      have hd : ∀ w2 (y : Int), SH w2 B q c ((k : Int) + 1) y → SH (w2.setCell ⟨T, k, none⟩ (.int .i64 (y - gv q c k))) B q c ((k : Int) + 1) y := fun w2 y h => h.turns (Turns.setCell (X := fun b => b = T) w2 (p := ⟨T, k, none⟩) rfl _) (by omega)
      have hev : Hid (gv q c ((k : Int) + 1) - gv q c k = evF c q k) := (rfl : _ = _)
      generalize gv q c k = g0 at *
      generalize hg1 : gv q c ((k : Int) + 1) = g1 at *
      have hg1' : Hid (gv q c ((k : Int) + 1) = g1) := hg1
      clear hg1 hr hi hb
      go_wp2_with fail
      refine hN.mono ?_
      rintro e w2 ⟨rfl, hs, ht⟩
      obtain ⟨c0, z0, h3, h4⟩ := hend w2 ht
      clear hend hN
      go_wp2_with fail
      go_roundw
      case rel => exact ⟨k + 1, by omega, by simp, h4 _, by rw [show ((k + 1 : Nat) : Int) = (k : Int) + 1 by omega, hg1'.out]; exact hd _ _ hs, h3.out _ hev.out⟩
      case measure => simp [intOf]; omega
    · obtain rfl : k = c := by omega
      have hge : ¬ (k : Int) < k := by omega
      go_wp2_with fail
      go_ret
      exact ⟨T, by omega, rfl, by have := hi.out; rw [upto_all] at this; exact this, hb⟩
end Go.Proofs.Ytkhnfmdhdfpdhaa

namespace Go.Proofs.Ytkhnfmdhdfpdhaa
open Go.RowKit Go.Shelf

/-- By how much the first k columns can grow. -/
def gt (L : List Co) (k : Nat) : Int := tot (mAt L) k - tot (sAt L) k
def groR (L : List Co) (q : Int) : Int := min q (tot (mAt L) L.length) - tot (sAt L) L.length
def groF (L : List Co) (q : Int) (i : Nat) : Int := sAt L i + (gv (groR L q) (gt L L.length) (gt L (i + 1)) - gv (groR L q) (gt L L.length) (gt L i))
def groL (L : List Co) (q : Int) : List Int := (List.range L.length).map (groF L q)
theorem gt_succ {L : List Co} {k : Nat} (h : k < L.length) : gt L (k + 1) = gt L k + (L[k].m - L[k].s) := by
  unfold gt
  show tot (mAt L) k + mAt L k - (tot (sAt L) k + sAt L k) = _
  rw [sAt_get h, mAt_get h]; omega
theorem gt_rng {L : List Co} (h : Few L) {k : Nat} (hk : k ≤ L.length) : 0 ≤ gt L k ∧ gt L k ≤ 6552032 := by
  have := h.tot k hk
  have hl := h.1
  unfold gt
  omega
theorem groR_rng {L : List Co} (h : Few L) {q : Int} (hq : tot (sAt L) L.length ≤ q ∧ q ≤ 4095) : 0 ≤ groR L q ∧ groR L q ≤ 4095 := by
  have := h.tot L.length (Nat.le_refl _)
  unfold groR
  omega

set_option maxRecDepth 100000 in
set_option maxHeartbeats 4000000 in
theorem grown_any (v : Value) (L : List Co) (hL : Few L) (q : Int) (hq : tot (sAt L) L.length ≤ q ∧ q ≤ 4095) (w : World) (hS : RecAt 2 coL w v L) :
    Calls Try.prog 32 #[v, .agg #[.int .i64 (tot (sAt L) L.length), .int .i64 (tot (mAt L) L.length)], .int .i64 q] w fun e w' => ∃ b, w.heap.size ≤ b ∧ e = .returned (.slice (some ⟨b, 0, none⟩) L.length L.length) ∧ IBk w' b (groL L q) ∧ Below w.heap.size w w' := by
  obtain ⟨a, cap, rfl, h2⟩ := hS.ex
  clear hS
  have hlen := hL.1
  have htot := hL.tot L.length (Nat.le_refl _)
  have hR : Hid (groR L q = min q (tot (mAt L) L.length) - tot (sAt L) L.length) := (rfl : _ = _)
  have hP : Hid (gt L L.length = tot (mAt L) L.length - tot (sAt L) L.length) := (rfl : _ = _)
  have hRr := groR_rng hL hq
  have hB1 := (Below.refl w.heap.size w).alloc (Nat.le_refl _) (.cells #[.int .i64 (tot (sAt L) L.length), .int .i64 (tot (mAt L) L.length)] 55)
  have hr1 := B2.new w (tot (sAt L) L.length) (tot (mAt L) L.length)
  have hs1 : (w.alloc (.cells #[.int .i64 (tot (sAt L) L.length), .int .i64 (tot (mAt L) L.length)] 55)).heap.size = w.heap.size + 1 := World.size_alloc _ _
  generalize tot (sAt L) L.length = S at *
  generalize tot (mAt L) L.length = M at *
  go_enter Try.func32, Try.ntmps32
  go_wp2_with fail
  generalize w.alloc (.cells #[.int .i64 S, .int .i64 M] 55) = w1 at *
  refine gro_r1 _ (fun _ _ _ _ _ h => h) _ _ w.heap.size q S M _ _ _ _ _ _ _ _ _ _ _ _ _ _ _ _ _ _ _ _ _ _ _ _ _ _ _ _ _ w1 (by omega) (by omega) hr1 ?_
  intro B w2 hBB hS2 hb2
  rw [← hR.out, ← hP.out] at hS2 ⊢
  have hb3 : Below w.heap.size w w2 := hB1.trans (hb2.mono hB1.size)
  have hmk := make26 (n := L.length) (by omega) w2
  go_wp2_with fail
  have hI : IBk (w2.alloc (.cells (ints (List.replicate L.length 0)).toArray 3)) w2.heap.size (upto (groF L q) L.length 0) := by rw [upto_zero]; exact World.alloc_heap_new w2 _
  have hS3 := hS2.turns (Turns.alloc Noth w2 (.cells (ints (List.replicate L.length 0)).toArray 3)) (fun h => h)
  have hb4 := hb3.alloc hb3.size (.cells (ints (List.replicate L.length 0)).toArray 3)
  have hne : B < w2.heap.size := hS2.lt
  have hBw : w.heap.size ≤ B := by have := hB1.size; omega
  generalize w2.alloc (.cells (ints (List.replicate L.length 0)).toArray 3) = w3 at *
  obtain ⟨T, hT⟩ : ∃ T, w2.heap.size = T := ⟨_, rfl⟩
  rw [hT] at hmk hI hne ⊢
  clear hT hS2 hb3 hb2 hB1 hr1 hs1
  clear hmk
  go_loopw [26] (fun i wr => ∃ k : Nat, k ≤ L.length ∧ i = .int .i64 (k : Int) ∧ Below w.heap.size w wr ∧ Hid (SH wr B (groR L q) (gt L L.length) (gt L k) (gv (groR L q) (gt L L.length) (gt L k))) ∧ Hid (IBk wr T (upto (groF L q) L.length k))) (fun i _ => L.length - (intOf i).toNat)
  case atStart => exact ⟨0, by omega, rfl, hb4, by rw [show gt L 0 = 0 from rfl, gv_zero]; exact hS3, hI⟩
  case round =>
    clear hI hS3 hb4
    obtain ⟨k, hk, rfl, hb, hr, hi⟩ := hrel
    by_cases hlt : k < L.length
    · have hlt' : (k : Int) < L.length := by omega
      rcases h2 with h2 | ⟨b, o, rfl, hbl, hc⟩
      · rw [h2] at hlt; simp at hlt
      have c0 : wr.cell? ⟨b, o + k * 2, none⟩ = some (.int .i64 L[k].s) := (hb.cell hbl).trans (hc k hlt 0 _ rfl)
      have c1 : wr.cell? ⟨b, o + k * 2 + 1, none⟩ = some (.int .i64 L[k].m) := (hb.cell hbl).trans (hc k hlt 1 _ rfl)
      have hx := hL.2 k hlt
      have htk := gt_rng hL (k := k) (by omega)
      have htn := gt_rng hL (k := L.length) (by omega)
      have hg := gv_rng (r := groR L q) (p := gt L L.length) (t := gt L k) hRr.1 htk.1
      have hg2 : groR L q * gt L k ≤ 4095 * 6552032 := Int.mul_le_mul hRr.2 htk.2 htk.1 (by omega)
      have hgs : Hid (gt L (k + 1) = gt L k + (L[k].m - L[k].s)) := (gt_succ hlt : _ = _)
      have hF : Hid (groF L q k = L[k].s + (gv (groR L q) (gt L L.length) (gt L k + (L[k].m - L[k].s)) - gv (groR L q) (gt L L.length) (gt L k))) := (by unfold groF; rw [gt_succ hlt, sAt_get hlt] : _ = _)
      have hC := B2.new wr L[k].s L[k].m
      have hT4 : Turns Noth wr (wr.alloc (.cells #[.int .i64 L[k].s, .int .i64 L[k].m] 55)) := Turns.alloc Noth wr _
      have hb5 := hb.alloc hb.size (.cells #[.int .i64 L[k].s, .int .i64 L[k].m] 55)
      have hr5 := hr.out.turns hT4 (fun h => h)
      have hi5 := hi.out.turns hT4 (fun h => h)
      have hsz : (wr.alloc (.cells #[.int .i64 L[k].s, .int .i64 L[k].m] 55)).heap.size = wr.heap.size + 1 := World.size_alloc _ _
      have hTl : T < wr.heap.size := hi.out.lt
      have hBl : B < wr.heap.size := hr.out.lt
      obtain ⟨hkl, hk0⟩ := upto_get (f := groF L q) hlt
      have hci := hi5.cell hkl
      rw [hk0] at hci
      obtain ⟨c2, z2⟩ := hci
      clear hc hr hi hb hT4 hkl hk0
      generalize L[k].s = x at *
      generalize L[k].m = y at *
      generalize groR L q = R at *
      generalize hn : L.length = n at *
      have hi6 : Hid (IBk (wr.alloc (.cells #[.int .i64 x, .int .i64 y] 55)) T (upto (groF L q) n k)) := hi5
      clear hi5
      have hwr := wr.heap.size
      go_wp2_with fail
      generalize wr.alloc (.cells #[.int .i64 x, .int .i64 y] 55) = w5 at *
      refine gro_r6 _ (fun _ _ _ _ _ h => h) _ _ B T wr.heap.size n k x y R (gt L n) (gt L k) (gv R (gt L n) (gt L k)) _ _ _ _ _ _ _ _ _ _ _ _ _ _ _ _ _ _ _ _ _ _ _ _ _ _ _ _ _ _ _ _ _ _ _ _ _ _ w5 (by omega) (by omega) (by omega) (by omega) (by omega) hlt hC hr5 c2 z2 (by omega) (by omega) (by omega) (by omega) ?_
      intro w6 hs6 ht6
      have h7 : Below w.heap.size w (w6.setCell ⟨T, k, none⟩ (.int .i64 (x + (gv R (gt L n) (gt L k + (y - x)) - gv R (gt L n) (gt L k))))) := (hb5.trans (ht6.below hb5.size (fun k hk => by omega))).setCell (p := ⟨T, k, none⟩) (by show _ ≤ T; omega) _
      have h8 : Hid (SH (w6.setCell ⟨T, k, none⟩ (.int .i64 (x + (gv R (gt L n) (gt L k + (y - x)) - gv R (gt L n) (gt L k))))) B R (gt L n) (gt L (k + 1)) (gv R (gt L n) (gt L (k + 1)))) := by
        rw [hgs.out]
        exact hs6.turns (Turns.setCell (X := fun b => b = T) w6 (p := ⟨T, k, none⟩) rfl _) (by omega)
      have h9 : Hid (IBk (w6.setCell ⟨T, k, none⟩ (.int .i64 (x + (gv R (gt L n) (gt L k + (y - x)) - gv R (gt L n) (gt L k))))) T (upto (groF L q) n (k + 1))) := by
        rw [← hF.out, ← upto_set hlt]
        exact (hi6.out.turns ht6 (by omega)).set k _
      generalize w6.setCell ⟨T, k, none⟩ (.int .i64 (x + (gv R (gt L n) (gt L k + (y - x)) - gv R (gt L n) (gt L k)))) = w7 at *
      clear hs6 ht6 hi6 hr5 hC c2 z2 hF hgs
      go_wp2_with fail
      go_roundw
      case rel => exact ⟨k + 1, by omega, by simp, h7, h8, h9⟩
      case measure => simp [intOf]; omega
    · obtain rfl : k = L.length := by omega
      have hge : ¬ (L.length : Int) < L.length := by omega
      clear h2
      go_wp2_with fail
      go_ret
      exact ⟨T, by omega, rfl, by have := hi.out; rw [upto_all] at this; exact this, hb⟩
end Go.Proofs.Ytkhnfmdhdfpdhaa
