/-
  What is proved here: what SameInts, example, wide and awake answer.
-/
import Derived.Test.YtkhnfmdhdfpdhaaGrO
import Derived.Deep.QuietTactic
namespace Go.Proofs.Ytkhnfmdhdfpdhaa
open Go.RowKit Go.Shelf

theorem InAt.cell {W : World} {b o : Nat} {l : List Int} {k : Nat} (hk : k < l.length) (h : ∀ (i : Nat) (h : i < l.length) (j : Nat) (u : Value), (inL l[i])[j]? = some u → W.cell? ⟨b, o + i * 1 + j, none⟩ = some u) : W.cell? ⟨b, o + k, none⟩ = some (.int .i64 l[k]) := by
  have := h k hk 0 _ rfl
  rwa [show o + k * 1 + 0 = o + k by omega] at this
theorem in_of_row {W : World} {base : Nat} {v : Value} {l : List Int} {n : Nat} (hn : n = l.length) (h : W.ownsRow base 3 1 v n (ints l)) : InAt W v l := rec_of_row (f := inL) (fun _ => rfl) hn (by rw [inL_map]; exact h)
theorem in_nil (W : World) : InAt W (.slice none 0 0) [] := ⟨⟨none, 0, rfl, .inl rfl⟩, fun a n c e => by cases e; exact Nat.le_refl _⟩
set_option maxRecDepth 100000 in
set_option maxHeartbeats 2000000 in
theorem sameInts_yes (v1 v2 : Value) (L : List Int) (hlen : L.length ≤ 140737488355328) (w : World) (h1 : InAt w v1 L) (h2 : InAt w v2 L) :
    Calls Try.prog 13 #[v1, v2] w fun e w' => e = .returned (.bool true) ∧ Below w.heap.size w w' := by
  obtain ⟨a1, cap1, rfl, k1⟩ := h1.ex
  obtain ⟨a2, cap2, rfl, k2⟩ := h2.ex
  go_enter Try.func13, Try.ntmps13
  go_wp2_with fail
  go_loopw [5] (fun i wr => ∃ k : Nat, k ≤ L.length ∧ i = .int .i64 k ∧ Below w.heap.size w wr) (fun i _ => L.length - (RowKit.intOf i).toNat)
  case atStart => exact ⟨0, by omega, rfl, Below.refl _ _⟩
  case round =>
    obtain ⟨k, hk, rfl, hb⟩ := hrel
    by_cases hlt : k < L.length
    · rcases k1 with k1 | ⟨b1, o1, rfl, hl1, hc1⟩
      · rw [k1] at hlt; simp at hlt
      · rcases k2 with k2 | ⟨b2, o2, rfl, hl2, hc2⟩
        · rw [k2] at hlt; simp at hlt
        · have d1 : wr.cell? ⟨b1, o1 + k, none⟩ = some (.int .i64 L[k]) := (hb.cell hl1).trans (InAt.cell hlt hc1)
          have d2 : wr.cell? ⟨b2, o2 + k, none⟩ = some (.int .i64 L[k]) := (hb.cell hl2).trans (InAt.cell hlt hc2)
          have hkl : (k : Int) < L.length := by omega
          clear hc1 hc2 h1 h2
          generalize L[k] = s at d1 d2
          go_wp2_with fail
          go_quiet (fail)
          go_wp2_with fail
          go_roundw
          case rel => exact ⟨k + 1, by omega, by simp, ⟨hb.os, hb.tape, hb.output, hb.size, hb.block⟩⟩
          case measure => simp [RowKit.intOf]; omega
    · obtain rfl : k = L.length := by omega
      go_wp2_with fail
      go_ret
      exact ⟨rfl, hb⟩

/-- The chapter's table. -/
def exl : List ByteArray := [⟨#[97, 98, 32, 99]⟩, ⟨#[100, 100]⟩]
theorem info24t (c : Int) (v : Value) : (Try.prog.info? 24).map (·.size) = some (#[Value.int .i64 c, v] : Array Value).size := by show _ = some 2; kernel_rfl
theorem one24 (c : Int) (v : Value) (h : v.oneCell' = true) : (#[Value.int .i64 c, v] : Array Value).all (·.oneCell') = true := by simp [Value.oneCell'] at h ⊢; exact h
set_option maxRecDepth 100000 in
set_option maxHeartbeats 2000000 in
theorem example_any (w : World) : Calls Try.prog 22 #[] w fun e w' => ∃ v, e = .returned (.agg #[.int .i64 2, v]) ∧ StrsAt w' v exl ∧ Below w.heap.size w w' := by
  have hB0 := (Below.refl w.heap.size w).alloc (Nat.le_refl _) (.cells #[.int .i64 0, .slice none 0 0] 24)
  have hr0 := TB.new w 0 (.slice none 0 0)
  have hs0 : (w.alloc (.cells #[.int .i64 0, .slice none 0 0] 24)).heap.size = w.heap.size + 1 := World.size_alloc _ _
  have hS1 := strs_new (w.alloc (.cells #[.int .i64 0, .slice none 0 0] 24)) exl
  have e1 : (exl.map Value.string).toArray = #[.string ⟨#[97, 98, 32, 99]⟩, .string ⟨#[100, 100]⟩] := rfl
  rw [e1] at hS1
  have hr1 := hr0.turns (Turns.alloc Noth _ (.cells #[.string ⟨#[97, 98, 32, 99]⟩, .string ⟨#[100, 100]⟩] 9)) (fun h => h)
  have hB1 := hB0.alloc hB0.size (.cells #[.string ⟨#[97, 98, 32, 99]⟩, .string ⟨#[100, 100]⟩] 9)
  rw [hs0] at hS1
  generalize hw1 : (w.alloc (.cells #[.int .i64 0, .slice none 0 0] 24)).alloc (.cells #[.string ⟨#[97, 98, 32, 99]⟩, .string ⟨#[100, 100]⟩] 9) = w1 at *
  have hT2 := Turns.setRow (X := fun b => b = w.heap.size) w1 (r := w.heap.size) rfl #[.int .i64 2, .slice (some ⟨w.heap.size + 1, 0, none⟩) 2 2]
  have hB2 := hB1.trans (hT2.below hB1.size (fun k hk => by omega))
  have hr2 : TB (w1.setRow w.heap.size #[.int .i64 2, .slice (some ⟨w.heap.size + 1, 0, none⟩) 2 2]) w.heap.size 2 (.slice (some ⟨w.heap.size + 1, 0, none⟩) 2 2) := ⟨setRow_heap _ _ _ _ 24 _ hr1.row⟩
  have hS2 : StrsAt (w1.setRow w.heap.size #[.int .i64 2, .slice (some ⟨w.heap.size + 1, 0, none⟩) 2 2]) (.slice (some ⟨w.heap.size + 1, 0, none⟩) 2 2) exl := by
    obtain ⟨⟨a, cap, e, h2⟩, hle⟩ := hS1
    refine ⟨⟨a, cap, e, ?_⟩, hle⟩
    rcases h2 with h2 | ⟨b, o, rfl, hlt, hc⟩
    · exact absurd h2 (by unfold exl; simp)
    · cases e
      refine .inr ⟨w.heap.size + 1, 0, rfl, Nat.lt_of_lt_of_le hlt hT2.size, fun i hi => ?_⟩
      rw [← hc i hi]
      unfold World.cell?
      rw [hT2.block _ hlt (by omega)]
  clear hS1 hB0 hr0 hB1
  subst hw1
  go_enter Try.func22, Try.ntmps22
  go_wp2_with (refine wpList_store_row rfl 24 _ _ rfl w.heap.size #[.int .i64 2, .slice (some ⟨w.heap.size + 1, 0, none⟩) 2 2] rfl rfl 24 _ hr1.row (info24t _ _) rfl (one24 _ _ rfl) ?_)
  exact bodyPost_ret (results_cell_row rfl _ _ w.heap.size 24 #[.int .i64 2, .slice (some ⟨w.heap.size + 1, 0, none⟩) 2 2] (0, 0) _ rfl hr2.row Try.underlying24 rfl (info24t _ _)) rfl ⟨_, rfl, hS2, hB2⟩

theorem ex_ck : chkG 2 exl = 0 := by kernel_rfl
theorem sizes_ok (l : List ByteArray) (h : ∀ t ∈ l, t.size ≤ 200) : ∀ t ∈ l, t.size ≤ 9223372036854775807 := fun t ht => by have := h t ht; omega
theorem ex_small : ∀ t ∈ exl, t.size ≤ 9223372036854775807 := sizes_ok _ (by decide)
theorem ex_ls : leS 2 exl 2 = [14, 14] ∧ leM 2 exl 2 = [22, 14] := by constructor <;> kernel_rfl
theorem ex_w50 : wdL 2 exl 50 = [22, 14] ∧ decide (50 < sumS 2 exl) = false := by constructor <;> kernel_rfl
theorem ex_w36 : wdL 2 exl 36 = [22, 14] ∧ decide (36 < sumS 2 exl) = false := by constructor <;> kernel_rfl
theorem ex_w30 : wdL 2 exl 30 = [16, 14] ∧ decide (30 < sumS 2 exl) = false := by constructor <;> kernel_rfl
theorem ex_w28 : wdL 2 exl 28 = [14, 14] ∧ decide (28 < sumS 2 exl) = false := by constructor <;> kernel_rfl
theorem ex_w21 : wdL 2 exl 21 = [10, 11] ∧ decide (21 < sumS 2 exl) = true := by constructor <;> kernel_rfl

set_option maxRecDepth 100000 in
set_option maxHeartbeats 2000000 in
theorem wide_yes (q : Int) (vw : Value) (L : List Int) (tight : Bool) (hq : 0 ≤ q ∧ q ≤ 4095) (hw : wdL 2 exl q = L ∧ decide (q < sumS 2 exl) = tight) (hL : L.length = 2) (w : World) (hI : InAt w vw L) :
    Calls Try.prog 24 #[.int .i64 q, vw, .bool tight] w fun e w' => e = .returned (.bool true) ∧ Below w.heap.size w w' := by
  have hsame := fun v W (h1 : InAt W v L) (h2 : InAt W vw L) => sameInts_yes v vw L (by omega) W h1 h2
  have hwd : ∀ v W, StrsAt W v exl → Calls Try.prog 11 #[.agg #[.int .i64 2, v], .int .i64 q] W fun e w' => ∃ b, e = .returned (.tuple #[.slice (some ⟨b, 0, none⟩) 2 2, .bool tight, .int .i64 0]) ∧ InAt w' (.slice (some ⟨b, 0, none⟩) 2 2) L ∧ Below W.heap.size W w' := fun v W hS => by
    refine (widths_any 2 v exl q (by decide) ex_small W hS).mono ?_
    rintro e w' ⟨hb, h | h | h⟩
    · exact absurd ex_ck h.1
    · exact absurd hq h.2.1
    · obtain ⟨_, _, b, _, he, hi⟩ := h
      rw [show (2 : Int).toNat = 2 from rfl, hw.1] at hi
      rw [show (2 : Int).toNat = 2 from rfl, hw.2] at he
      have := hi.at
      rw [hL] at this
      exact ⟨b, he, this, hb⟩
  have hex := example_any
  clear hw hq
  cases tight
  all_goals
    go_enter Try.func24, Try.ntmps24
    go_wp2_with (first
      | (go_at_call 22; refine (hex _).mono ?_; rintro e w1 ⟨v, rfl, hS1, b1⟩)
      | (go_at_call 11; refine (hwd v _ hS1).mono ?_; rintro e w2 ⟨b, rfl, hI2, b2⟩; have hB2 := b1.trans (b2.mono b1.size); have hI3 := hI.below hB2 (Nat.le_refl _))
      | (go_at_call 13; refine (hsame _ _ hI2 hI3).mono ?_; rintro e w3 ⟨rfl, b3⟩; have hB3 := hB2.trans (b3.mono hB2.size)))
    go_ret
    exact ⟨rfl, hB3⟩
theorem lit26 (w : World) (x y : Int) : InAt (w.alloc (.cells #[.int .i64 x, .int .i64 y] 3)) (.slice (some ⟨w.heap.size, 0, none⟩) 2 2) [x, y] := by
  have := rec_new (f := inL) (k := 1) (fun _ => rfl) w 3 [x, y]
  exact this
set_option maxRecDepth 100000 in
set_option maxHeartbeats 2000000 in
theorem awake_any (w : World) : Calls Try.prog 21 #[] w fun e w' => e = .returned (.bool true) ∧ Below w.heap.size w w' := by
  have hB0 := (Below.refl w.heap.size w).alloc (Nat.le_refl _) (.cells #[.int .i64 16, .int .i64 14] 3)
  have hI := lit26 w 16 14
  have hw := wide_yes 30 _ [16, 14] false ⟨by omega, by omega⟩ ex_w30 rfl _ hI
  go_enter Try.func21, Try.ntmps21
  go_wp2_with (go_at_call 24; refine hw.mono ?_; rintro e w1 ⟨rfl, b1⟩)
  go_ret
  exact ⟨rfl, hB0.trans (b1.mono hB0.size)⟩
end Go.Proofs.Ytkhnfmdhdfpdhaa
