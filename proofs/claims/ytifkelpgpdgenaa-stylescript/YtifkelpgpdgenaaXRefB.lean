/-
  What is proved here: what the document's own fits answers of a list (for StyleScript).
-/
import Derived.Test.YtifkelpgpdgenaaXResolve
namespace Go.Proofs.Ytifkelpgpdgenaa
open Go.RowKit Go.Shelf

set_option maxRecDepth 100000 in
set_option maxHeartbeats 2000000 in
theorem refFitsL_any (v : Value) (qs : List (Int × Int)) (w : World) (hS : SetsAt w v qs) :
    Calls Try.prog 45 #[v] w fun e w' => e = .returned (.int .i64 (refuseL qs)) ∧ Below w.heap.size w w' := by
  obtain ⟨a, cap, rfl, h2⟩ := hS.ex
  have hlen := hS.few
  clear hS
  by_cases h64 : 64 < qs.length
  · have hr : refuseL qs = 3 := by unfold refuseL; rw [if_pos h64]
    rw [hr]
    go_enter Try.func45, Try.ntmps45
    go_wp2_with fail
    go_ret
    exact ⟨rfl, Below.refl _ _⟩
  · have hr : Hid (refuseL qs = if qs.all (fun q => mayS q.1 q.2) then 0 else 2) := by unfold refuseL; rw [if_neg h64]; exact rfl
    go_enter Try.func45, Try.ntmps45
    go_wp2_with fail
    go_loopw [3] (fun i wr => ∃ k : Nat, k ≤ qs.length ∧ i = .int .i64 k ∧ Below w.heap.size w wr ∧ Hid ((qs.take k).all (fun q => mayS q.1 q.2) = true)) (fun i _ => qs.length - (intOf i).toNat)
    case atStart => exact ⟨0, by omega, rfl, Below.refl _ _, rfl⟩
    case round =>
      obtain ⟨k, hk, rfl, hb, hall⟩ := hrel
      by_cases hlt : k < qs.length
      · rcases h2 with h2 | ⟨b, o, rfl, hbl, hc⟩
        · rw [h2] at hlt; simp at hlt
        · obtain ⟨c0, c1⟩ := hc k hlt
          have hw : ∀ j v, w.cell? ⟨b, j, none⟩ = some v → wr.cell? ⟨b, j, none⟩ = some v := fun j v hv => by rw [← hv]; exact hb.cell hbl
          have d0 := hw _ _ c0; have d1 := hw _ _ c1
          clear hw c0 c1 hc
          have hmay := refFits_any qs[k].1 qs[k].2
          have hno : Hid _ := all_no hlt
          have hyes : Hid _ := all_take_succ hlt hall
          unfold seV at hmay
          generalize qs[k].1 = x at *
          generalize qs[k].2 = y at *
          cases hm : mayS x y
          · rw [hm] at hmay
            have h5 : refuseL qs = 2 := by rw [hr.out, hno.out hm]; rfl
            clear hno hyes hall hr
            go_wp2_with (go_at_call 18; refine (hmay _).mono ?_; rintro e w' ⟨rfl, hb'⟩)
            go_ret
            exact ⟨by first | rfl | (rw [h5]; rfl), hb.trans (hb'.mono hb.size)⟩
          · rw [hm] at hmay
            have h5 : Hid _ := hyes.out hm
            clear hno hyes hall hr
            go_wp2_with (go_at_call 18; refine (hmay _).mono ?_; rintro e w' ⟨rfl, hb'⟩)
            go_roundw
            case rel => exact ⟨k + 1, by omega, by simp, hb.trans (hb'.mono hb.size), h5⟩
            case measure => simp [intOf]; omega
      · obtain rfl : k = qs.length := by omega
        have h5 : refuseL qs = 0 := by
          have := hall.out
          rw [List.take_length] at this
          rw [hr.out, this]; rfl
        clear hall hr
        go_wp2_with fail
        go_ret
        exact ⟨by first | rfl | (rw [h5]; rfl), hb⟩
end Go.Proofs.Ytifkelpgpdgenaa
