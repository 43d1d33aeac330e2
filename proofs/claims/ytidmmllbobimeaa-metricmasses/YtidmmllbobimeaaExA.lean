/-
  What is proved here: when two lists of masses are the same; the chapter's paragraph; awake answers true.
-/
import Derived.Test.YtidmmllbobimeaaMassW
import Derived.Test.YtidmmllbobimeaaNatA
namespace Go.Proofs.Ytidmmllbobimeaa
open Go.RowKit Go.Shelf

set_option maxRecDepth 100000 in
set_option maxHeartbeats 2000000 in
theorem same_yes (v u : Value) (qs : List Ms) (w : World) (hl : qs.length ≤ 9223372036854775807) (hS : RecAt 6 msL w v qs) (hR : RecAt 6 msL w u qs) :
    Calls Try.prog 19 #[v, u] w fun e w' => e = .returned (.bool true) ∧ Below w.heap.size w w' := by
  obtain ⟨a, cap, rfl, h2⟩ := hS.ex
  obtain ⟨a', cap', rfl, h3⟩ := hR.ex
  clear hS hR
  go_enter Try.func19, Try.ntmps19
  go_wp2_with fail
  go_loopw [5] (fun i wr => ∃ k : Nat, k ≤ qs.length ∧ i = .int .i64 k ∧ Below w.heap.size w wr) (fun i _ => qs.length - (intOf i).toNat)
  case atStart => exact ⟨0, by omega, rfl, Below.refl _ _⟩
  case round =>
    obtain ⟨k, hk, rfl, hb⟩ := hrel
    by_cases hlt : k < qs.length
    · rcases h2 with h2 | ⟨b, o, rfl, hbl, hc⟩
      · rw [h2] at hlt; simp at hlt
      · rcases h3 with h3 | ⟨b', o', rfl, hbl', hc'⟩
        · rw [h3] at hlt; simp at hlt
        · have hlt' : (k : Int) < qs.length := by omega
          have c0 : wr.cell? ⟨b, o + k * 6, none⟩ = some (.int .i64 qs[k].f) := (hb.cell hbl).trans (hc k hlt 0 _ rfl)
          have d0 : wr.cell? ⟨b', o' + k * 6, none⟩ = some (.int .i64 qs[k].f) := (hb.cell hbl').trans (hc' k hlt 0 _ rfl)
          have c1 : wr.cell? ⟨b, o + k * 6 + 1, none⟩ = some (.int .i64 qs[k].t) := (hb.cell hbl).trans (hc k hlt 1 _ rfl)
          have d1 : wr.cell? ⟨b', o' + k * 6 + 1, none⟩ = some (.int .i64 qs[k].t) := (hb.cell hbl').trans (hc' k hlt 1 _ rfl)
          have c2 : wr.cell? ⟨b, o + k * 6 + 2, none⟩ = some (.int .i64 qs[k].k) := (hb.cell hbl).trans (hc k hlt 2 _ rfl)
          have d2 : wr.cell? ⟨b', o' + k * 6 + 2, none⟩ = some (.int .i64 qs[k].k) := (hb.cell hbl').trans (hc' k hlt 2 _ rfl)
          have c3 : wr.cell? ⟨b, o + k * 6 + 3, none⟩ = some (.int .i64 qs[k].s) := (hb.cell hbl).trans (hc k hlt 3 _ rfl)
          have d3 : wr.cell? ⟨b', o' + k * 6 + 3, none⟩ = some (.int .i64 qs[k].s) := (hb.cell hbl').trans (hc' k hlt 3 _ rfl)
          have c4 : wr.cell? ⟨b, o + k * 6 + 4, none⟩ = some (.int .i64 qs[k].w) := (hb.cell hbl).trans (hc k hlt 4 _ rfl)
          have d4 : wr.cell? ⟨b', o' + k * 6 + 4, none⟩ = some (.int .i64 qs[k].w) := (hb.cell hbl').trans (hc' k hlt 4 _ rfl)
          have c5 : wr.cell? ⟨b, o + k * 6 + 5, none⟩ = some (.int .i64 qs[k].q) := (hb.cell hbl).trans (hc k hlt 5 _ rfl)
          have d5 : wr.cell? ⟨b', o' + k * 6 + 5, none⟩ = some (.int .i64 qs[k].q) := (hb.cell hbl').trans (hc' k hlt 5 _ rfl)
          clear hc hc'
          generalize qs[k].f = x0 at *
          generalize qs[k].t = x1 at *
          generalize qs[k].k = x2 at *
          generalize qs[k].s = x3 at *
          generalize qs[k].w = x4 at *
          generalize qs[k].q = x5 at *
          go_wp2_with fail
          go_quiet (fail)
          go_wp2_with fail
          go_roundw
          case rel => exact ⟨k + 1, by omega, by simp, below_drewN hb _⟩
          case measure => simp [intOf]; omega
    · have hge : ¬ (k : Int) < qs.length := by omega
      go_wp2_with fail
      go_ret
      exact ⟨rfl, hb⟩

end Go.Proofs.Ytidmmllbobimeaa
