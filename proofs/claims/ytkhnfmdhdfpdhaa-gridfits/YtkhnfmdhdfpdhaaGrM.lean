/-
  What is proved here: a room that is shared out among columns that grow.
-/
import Derived.Test.YtkhnfmdhdfpdhaaGrL
namespace Go.Proofs.Ytkhnfmdhdfpdhaa
open Go.RowKit Go.Shelf

/-- By how much the first k columns can grow. -/
def gt (L : List Co) (k : Nat) : Int := tot (mAt L) k - tot (sAt L) k
def groR (L : List Co) (q : Int) : Int := min q (tot (mAt L) L.length) - tot (sAt L) L.length
def groF (L : List Co) (q : Int) (i : Nat) : Int := sAt L i + (gv (groR L q) (gt L L.length) (gt L (i + 1)) - gv (groR L q) (gt L L.length) (gt L i))
def groL (L : List Co) (q : Int) : List Int := (List.range L.length).map (groF L q)
theorem gt_succ {L : List Co} {k : Nat} (h : k < L.length) : gt L (k + 1) = gt L k + (L[k].m - L[k].s) := by
  unfold gt
  show tot (mAt L) k + mAt L k - (tot (sAt L) k + sAt L k) = _
  rw [sAt_get h, mAt_get h]; omega
theorem gt_rng {L : List Co} (h : Few L) {k : Nat} (hk : k ≤ L.length) : 0 ≤ gt L k ∧ gt L k ≤ 6552032 := by
  have := h.tot k hk
  have hl := h.1
  unfold gt
  omega
theorem groR_rng {L : List Co} (h : Few L) {q : Int} (hq : tot (sAt L) L.length ≤ q ∧ q ≤ 4095) : 0 ≤ groR L q ∧ groR L q ≤ 4095 := by
  have := h.tot L.length (Nat.le_refl _)
  unfold groR
  omega

set_option maxRecDepth 100000 in
set_option maxHeartbeats 4000000 in
theorem grown_any (v : Value) (L : List Co) (hL : Few L) (q : Int) (hq : tot (sAt L) L.length ≤ q ∧ q ≤ 4095) (w : World) (hS : RecAt 2 coL w v L) :
    Calls Try.prog 32 #[v, .agg #[.int .i64 (tot (sAt L) L.length), .int .i64 (tot (mAt L) L.length)], .int .i64 q] w fun e w' => ∃ b, w.heap.size ≤ b ∧ e = .returned (.slice (some ⟨b, 0, none⟩) L.length L.length) ∧ IBk w' b (groL L q) ∧ Below w.heap.size w w' := by
  obtain ⟨a, cap, rfl, h2⟩ := hS.ex
  clear hS
  have hlen := hL.1
  have htot := hL.tot L.length (Nat.le_refl _)
  have hR : Hid (groR L q = min q (tot (mAt L) L.length) - tot (sAt L) L.length) := (rfl : _ = _)
  have hP : Hid (gt L L.length = tot (mAt L) L.length - tot (sAt L) L.length) := (rfl : _ = _)
  have hRr := groR_rng hL hq
  have hB1 := (Below.refl w.heap.size w).alloc (Nat.le_refl _) (.cells #[.int .i64 (tot (sAt L) L.length), .int .i64 (tot (mAt L) L.length)] 55)
  have hr1 := B2.new w (tot (sAt L) L.length) (tot (mAt L) L.length)
  have hs1 : (w.alloc (.cells #[.int .i64 (tot (sAt L) L.length), .int .i64 (tot (mAt L) L.length)] 55)).heap.size = w.heap.size + 1 := World.size_alloc _ _
  generalize tot (sAt L) L.length = S at *
  generalize tot (mAt L) L.length = M at *
  go_enter Try.func32, Try.ntmps32
  go_wp2_with fail
  generalize w.alloc (.cells #[.int .i64 S, .int .i64 M] 55) = w1 at *
  refine gro_r1 _ (fun _ _ _ _ _ h => h) _ _ w.heap.size q S M _ _ _ _ _ _ _ _ _ _ _ _ _ _ _ _ _ _ _ _ _ _ _ _ _ _ _ _ _ w1 (by omega) (by omega) hr1 ?_
  intro B w2 hBB hS2 hb2
  rw [← hR.out, ← hP.out] at hS2 ⊢
  have hb3 : Below w.heap.size w w2 := hB1.trans (hb2.mono hB1.size)
  have hmk := make26 (n := L.length) (by omega) w2
  go_wp2_with fail
  have hI : IBk (w2.alloc (.cells (ints (List.replicate L.length 0)).toArray 3)) w2.heap.size (upto (groF L q) L.length 0) := by rw [upto_zero]; exact World.alloc_heap_new w2 _
  have hS3 := hS2.turns (Turns.alloc Noth w2 (.cells (ints (List.replicate L.length 0)).toArray 3)) (fun h => h)
  have hb4 := hb3.alloc hb3.size (.cells (ints (List.replicate L.length 0)).toArray 3)
  have hne : B < w2.heap.size := hS2.lt
  have hBw : w.heap.size ≤ B := by have := hB1.size; omega
  generalize w2.alloc (.cells (ints (List.replicate L.length 0)).toArray 3) = w3 at *
  obtain ⟨T, hT⟩ : ∃ T, w2.heap.size = T := ⟨_, rfl⟩
  rw [hT] at hmk hI hne ⊢
  clear hT hS2 hb3 hb2 hB1 hr1 hs1
  clear hmk
  go_loopw [26] (fun i wr => ∃ k : Nat, k ≤ L.length ∧ i = .int .i64 (k : Int) ∧ Below w.heap.size w wr ∧ Hid (SH wr B (groR L q) (gt L L.length) (gt L k) (gv (groR L q) (gt L L.length) (gt L k))) ∧ Hid (IBk wr T (upto (groF L q) L.length k))) (fun i _ => L.length - (intOf i).toNat)
  case atStart => exact ⟨0, by omega, rfl, hb4, by rw [show gt L 0 = 0 from rfl, gv_zero]; exact hS3, hI⟩
  case round =>
    clear hI hS3 hb4
    obtain ⟨k, hk, rfl, hb, hr, hi⟩ := hrel
    by_cases hlt : k < L.length
    · have hlt' : (k : Int) < L.length := by omega
      rcases h2 with h2 | ⟨b, o, rfl, hbl, hc⟩
      · rw [h2] at hlt; simp at hlt
      have c0 : wr.cell? ⟨b, o + k * 2, none⟩ = some (.int .i64 L[k].s) := (hb.cell hbl).trans (hc k hlt 0 _ rfl)
      have c1 : wr.cell? ⟨b, o + k * 2 + 1, none⟩ = some (.int .i64 L[k].m) := (hb.cell hbl).trans (hc k hlt 1 _ rfl)
      have hx := hL.2 k hlt
      have htk := gt_rng hL (k := k) (by omega)
      have htn := gt_rng hL (k := L.length) (by omega)
      have hg := gv_rng (r := groR L q) (p := gt L L.length) (t := gt L k) hRr.1 htk.1
      have hg2 : groR L q * gt L k ≤ 4095 * 6552032 := Int.mul_le_mul hRr.2 htk.2 htk.1 (by omega)
      have hgs : Hid (gt L (k + 1) = gt L k + (L[k].m - L[k].s)) := (gt_succ hlt : _ = _)
      have hF : Hid (groF L q k = L[k].s + (gv (groR L q) (gt L L.length) (gt L k + (L[k].m - L[k].s)) - gv (groR L q) (gt L L.length) (gt L k))) := (by unfold groF; rw [gt_succ hlt, sAt_get hlt] : _ = _)
      have hC := B2.new wr L[k].s L[k].m
      have hT4 : Turns Noth wr (wr.alloc (.cells #[.int .i64 L[k].s, .int .i64 L[k].m] 55)) := Turns.alloc Noth wr _
      have hb5 := hb.alloc hb.size (.cells #[.int .i64 L[k].s, .int .i64 L[k].m] 55)
      have hr5 := hr.out.turns hT4 (fun h => h)
      have hi5 := hi.out.turns hT4 (fun h => h)
      have hsz : (wr.alloc (.cells #[.int .i64 L[k].s, .int .i64 L[k].m] 55)).heap.size = wr.heap.size + 1 := World.size_alloc _ _
      have hTl : T < wr.heap.size := hi.out.lt
      have hBl : B < wr.heap.size := hr.out.lt
      obtain ⟨hkl, hk0⟩ := upto_get (f := groF L q) hlt
      have hci := hi5.cell hkl
      rw [hk0] at hci
      obtain ⟨c2, z2⟩ := hci
      clear hc hr hi hb hT4 hkl hk0
      generalize L[k].s = x at *
      generalize L[k].m = y at *
      generalize groR L q = R at *
      generalize hn : L.length = n at *
      have hi6 : Hid (IBk (wr.alloc (.cells #[.int .i64 x, .int .i64 y] 55)) T (upto (groF L q) n k)) := hi5
      clear hi5
      have hwr := wr.heap.size
      go_wp2_with fail
      generalize wr.alloc (.cells #[.int .i64 x, .int .i64 y] 55) = w5 at *
      refine gro_r6 _ (fun _ _ _ _ _ h => h) _ _ B T wr.heap.size n k x y R (gt L n) (gt L k) (gv R (gt L n) (gt L k)) _ _ _ _ _ _ _ _ _ _ _ _ _ _ _ _ _ _ _ _ _ _ _ _ _ _ _ _ _ _ _ _ _ _ _ _ _ _ w5 (by omega) (by omega) (by omega) (by omega) (by omega) hlt hC hr5 c2 z2 (by omega) (by omega) (by omega) (by omega) ?_
      intro w6 hs6 ht6
      have h7 : Below w.heap.size w (w6.setCell ⟨T, k, none⟩ (.int .i64 (x + (gv R (gt L n) (gt L k + (y - x)) - gv R (gt L n) (gt L k))))) := (hb5.trans (ht6.below hb5.size (fun k hk => by omega))).setCell (p := ⟨T, k, none⟩) (by show _ ≤ T; omega) _
      have h8 : Hid (SH (w6.setCell ⟨T, k, none⟩ (.int .i64 (x + (gv R (gt L n) (gt L k + (y - x)) - gv R (gt L n) (gt L k))))) B R (gt L n) (gt L (k + 1)) (gv R (gt L n) (gt L (k + 1)))) := by
        rw [hgs.out]
        exact hs6.turns (Turns.setCell (X := fun b => b = T) w6 (p := ⟨T, k, none⟩) rfl _) (by omega)
      have h9 : Hid (IBk (w6.setCell ⟨T, k, none⟩ (.int .i64 (x + (gv R (gt L n) (gt L k + (y - x)) - gv R (gt L n) (gt L k))))) T (upto (groF L q) n (k + 1))) := by
        rw [← hF.out, ← upto_set hlt]
        exact (hi6.out.turns ht6 (by omega)).set k _
      generalize w6.setCell ⟨T, k, none⟩ (.int .i64 (x + (gv R (gt L n) (gt L k + (y - x)) - gv R (gt L n) (gt L k)))) = w7 at *
      clear hs6 ht6 hi6 hr5 hC c2 z2 hF hgs
      go_wp2_with fail
      go_roundw
      case rel => exact ⟨k + 1, by omega, by simp, h7, h8, h9⟩
      case measure => simp [intOf]; omega
    · obtain rfl : k = L.length := by omega
      have hge : ¬ (L.length : Int) < L.length := by omega
      clear h2
      go_wp2_with fail
      go_ret
      exact ⟨T, by omega, rfl, by have := hi.out; rw [upto_all] at this; exact this, hb⟩
end Go.Proofs.Ytkhnfmdhdfpdhaa
