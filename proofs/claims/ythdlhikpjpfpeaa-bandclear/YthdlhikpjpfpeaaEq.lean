/-
  What is proved here: which lists are alike, and the band of the examples.
-/
import Derived.Test.YthdlhikpjpfpeaaSlots
import Derived.Test.YthdlhikpjpfpeaaClear
import Derived.Test.YthdlhikpjpfpeaaRPut
import Derived.BigQuiet
namespace Go.Proofs.Ythdlhikpjpfpeaa
open Go.RowKit Go.Shelf

set_option maxRecDepth 100000 in
set_option maxHeartbeats 2000000 in
theorem slots_yes (u v : Value) (L : List Sl) (hl : L.length ≤ 9223372036854775807) (w : World) (hS : RecAt 2 slL w u L) (hT : RecAt 2 slL w v L) :
    Calls Try.prog 13 #[u, v] w fun e w' => e = .returned (.bool true) ∧ Below w.heap.size w w' := by
  obtain ⟨a, cap, rfl, h2⟩ := hS.ex
  obtain ⟨a', cap', rfl, h3⟩ := hT.ex
  clear hS hT
  go_enter Try.func13, Try.ntmps13
  go_wp2_with fail
  go_loopw [5] (fun i wr => ∃ k : Nat, k ≤ L.length ∧ i = .int .i64 k ∧ Below w.heap.size w wr) (fun i _ => L.length - (intOf i).toNat)
  case atStart => exact ⟨0, by omega, rfl, Below.refl _ _⟩
  case round =>
    obtain ⟨k, hk, rfl, hb⟩ := hrel
    by_cases hlt : k < L.length
    · rcases h2 with h2 | ⟨b, o, rfl, hbl, hc⟩
      · rw [h2] at hlt; simp at hlt
      rcases h3 with h3 | ⟨b', o', rfl, hbl', hc'⟩
      · rw [h3] at hlt; simp at hlt
      have hlt' : (k : Int) < L.length := by omega
      have c0 : wr.cell? ⟨b, o + k * 2, none⟩ = some (.int .i64 L[k].x) := (hb.cell hbl).trans (hc k hlt 0 _ rfl)
      have d0 : wr.cell? ⟨b', o' + k * 2, none⟩ = some (.int .i64 L[k].x) := (hb.cell hbl').trans (hc' k hlt 0 _ rfl)
      have c1 : wr.cell? ⟨b, o + k * 2 + 1, none⟩ = some (.int .i64 L[k].w) := (hb.cell hbl).trans (hc k hlt 1 _ rfl)
      have d1 : wr.cell? ⟨b', o' + k * 2 + 1, none⟩ = some (.int .i64 L[k].w) := (hb.cell hbl').trans (hc' k hlt 1 _ rfl)
      clear hc hc'
      generalize L[k].x = q0 at *
      generalize L[k].w = q1 at *
      go_wp2_with fail
      go_quiet (fail)
      go_wp2_with fail
      go_roundw
      case rel => exact ⟨k + 1, by omega, by simp, below_drewN hb _⟩
      case measure => simp [intOf]; omega
    · have hge : ¬ (k : Int) < L.length := by omega
      go_wp2_with fail
      go_ret
      exact ⟨rfl, hb⟩
set_option maxRecDepth 100000 in
set_option maxHeartbeats 2000000 in
theorem bands_yes (u v : Value) (L : List Bd) (hl : L.length ≤ 9223372036854775807) (w : World) (hS : RecAt 4 bdL w u L) (hT : RecAt 4 bdL w v L) :
    Calls Try.prog 14 #[u, v] w fun e w' => e = .returned (.bool true) ∧ Below w.heap.size w w' := by
  obtain ⟨a, cap, rfl, h2⟩ := hS.ex
  obtain ⟨a', cap', rfl, h3⟩ := hT.ex
  clear hS hT
  go_enter Try.func14, Try.ntmps14
  go_wp2_with fail
  go_loopw [5] (fun i wr => ∃ k : Nat, k ≤ L.length ∧ i = .int .i64 k ∧ Below w.heap.size w wr) (fun i _ => L.length - (intOf i).toNat)
  case atStart => exact ⟨0, by omega, rfl, Below.refl _ _⟩
  case round =>
    obtain ⟨k, hk, rfl, hb⟩ := hrel
    by_cases hlt : k < L.length
    · rcases h2 with h2 | ⟨b, o, rfl, hbl, hc⟩
      · rw [h2] at hlt; simp at hlt
      rcases h3 with h3 | ⟨b', o', rfl, hbl', hc'⟩
      · rw [h3] at hlt; simp at hlt
      have hlt' : (k : Int) < L.length := by omega
      have c0 : wr.cell? ⟨b, o + k * 4, none⟩ = some (.int .i64 L[k].s) := (hb.cell hbl).trans (hc k hlt 0 _ rfl)
      have d0 : wr.cell? ⟨b', o' + k * 4, none⟩ = some (.int .i64 L[k].s) := (hb.cell hbl').trans (hc' k hlt 0 _ rfl)
      have c1 : wr.cell? ⟨b, o + k * 4 + 1, none⟩ = some (.int .i64 L[k].y) := (hb.cell hbl).trans (hc k hlt 1 _ rfl)
      have d1 : wr.cell? ⟨b', o' + k * 4 + 1, none⟩ = some (.int .i64 L[k].y) := (hb.cell hbl').trans (hc' k hlt 1 _ rfl)
      have c2 : wr.cell? ⟨b, o + k * 4 + 2, none⟩ = some (.int .i64 L[k].h) := (hb.cell hbl).trans (hc k hlt 2 _ rfl)
      have d2 : wr.cell? ⟨b', o' + k * 4 + 2, none⟩ = some (.int .i64 L[k].h) := (hb.cell hbl').trans (hc' k hlt 2 _ rfl)
      have c3 : wr.cell? ⟨b, o + k * 4 + 3, none⟩ = some (.int .i64 L[k].w) := (hb.cell hbl).trans (hc k hlt 3 _ rfl)
      have d3 : wr.cell? ⟨b', o' + k * 4 + 3, none⟩ = some (.int .i64 L[k].w) := (hb.cell hbl').trans (hc' k hlt 3 _ rfl)
      clear hc hc'
      generalize L[k].s = q0 at *
      generalize L[k].y = q1 at *
      generalize L[k].h = q2 at *
      generalize L[k].w = q3 at *
      go_wp2_with fail
      go_quiet (fail)
      go_wp2_with fail
      go_roundw
      case rel => exact ⟨k + 1, by omega, by simp, below_drewN hb _⟩
      case measure => simp [intOf]; omega
    · have hge : ¬ (k : Int) < L.length := by omega
      go_wp2_with fail
      go_ret
      exact ⟨rfl, hb⟩
def exB : Bd := ⟨0, 0, 20, 30⟩
set_option maxRecDepth 100000 in
theorem example_any (w : World) : Calls Try.prog 19 #[] w fun e w' => (∃ v, e = .returned v ∧ w'.ownsRow w.heap.size 34 4 v 1 (bdL exB)) ∧ Below w.heap.size w w' := by
  have hB := (Below.refl w.heap.size w).alloc (Nat.le_refl _) (.cells (bdC exB) 34)
  have hR : Hid ((w.alloc (.cells (bdC exB) 34)).ownsRow w.heap.size 34 4 (.slice (some ⟨w.heap.size, 0, none⟩) 1 1) 1 (bdL exB)) :=
    ⟨rfl, .inr ⟨w.heap.size, 1, bdC exB, rfl, Nat.le_refl _, World.alloc_heap_new w _, by omega, by unfold maxLen; omega, rfl, rfl⟩⟩
  go_enter Try.func19, Try.ntmps19
  go_wp2
  go_ret
  exact ⟨⟨_, rfl, hR.out⟩, hB⟩
theorem rec_one {W : World} {base : Nat} {v : Value} (h : W.ownsRow base 34 4 v 1 (bdL exB)) : RecAt 4 bdL W v [exB] := rec_of_row bdL_len (n := 1) rfl (by simpa using h)

end Go.Proofs.Ythdlhikpjpfpeaa
