/-
  What is proved here: the document's natural width of a run.
-/
import Derived.Test.YtidmmllbobimeaaExD
namespace Go.Proofs.Ytidmmllbobimeaa
open Go.RowKit Go.Shelf

set_option maxRecDepth 100000 in
set_option maxHeartbeats 4000000 in
theorem rrun_any (v : Value) (l : List Ms) (hall : l.all mOk = true) (f t : Nat) (hft : f ≤ t) (htl : t ≤ l.length) (hl : l.length ≤ 4096) (w : World) (hS : RecAt 6 msL w v l) :
    Calls Try.prog 50 #[v, .int .i64 f, .int .i64 t] w fun e w' => e = .returned (.int .i64 (runN l f (t - f))) ∧ w' = w := by
  obtain ⟨a, cap, rfl, h2⟩ := hS.ex
  clear hS
  have hrun : Hid (∀ k, k = t - f → runN l f k = runN l f (t - f)) := fun k e => by rw [e]
  go_enter Try.func50, Try.ntmps50
  go_wp2_with fail
  go_loopw [7, 8] (fun n i wr => ∃ j : Nat, f + j ≤ t ∧ i = .int .i64 (f + j : Nat) ∧ n = .int .i64 (runN l f j) ∧ wr = w) (fun _ i _ => t - (intOf i).toNat)
  case atStart => exact ⟨0, by omega, rfl, rfl, rfl⟩
  case round =>
    obtain ⟨j, hj, rfl, rfl, rfl⟩ := hrel
    by_cases hlt : f + j < t
    · rcases h2 with h2 | ⟨b, o, rfl, hbl, hc⟩
      · rw [h2] at htl; simp at htl; omega
      · have hjl : f + j < l.length := by omega
        have c4 : wr.cell? ⟨b, o + (f + j) * 6 + 4, none⟩ = some (.int .i64 l[f + j].w) := hc (f + j) hjl 4 _ rfl
        have c5 : wr.cell? ⟨b, o + (f + j) * 6 + 5, none⟩ = some (.int .i64 l[f + j].q) := hc (f + j) hjl 5 _ rfl
        have hr0 := run_rng hall f j (by omega)
        have hm := all_at hall hjl
        unfold mOk at hm
        rw [decide_eq_true_eq] at hm
        have hst : Hid (runN l f (j + 1) = runN l f j + l[f + j].w + (if 0 < j then l[f + j].q else 0)) := by
          show runN l f j + (l.getD (f + j) ms0).w + (if 0 < j then (l.getD (f + j) ms0).q else 0) = _
          rw [getD_is hjl]
        obtain ⟨p, hp⟩ : ∃ p, f + j = p := ⟨_, rfl⟩
        have hp' : Hid (f + j = p) := hp
        have hpl : (p : Int) < l.length := by omega
        have hpt : (p : Int) < t := by omega
        clear hc hrun
        generalize l[f + j].w = x4 at *
        generalize l[f + j].q = x5 at *
        generalize hR : runN l f j = R at *
        obtain ⟨⟨m0, m1⟩, m2, m3⟩ := hm
        obtain ⟨r0, r1⟩ := hr0
        have hj4 : j ≤ 4096 := by omega
        rw [hp] at c4 c5 hlt hj hjl ⊢
        by_cases hj0 : j = 0
        · have hz : Hid (runN l f (j + 1) = R + x4) := hst.out.trans (by rw [if_neg (by omega), Int.add_zero])
          have hj0' : ¬ (f : Int) < p := by omega
          have hj0'' : decide ((f : Int) < p) = false := decide_eq_false hj0'
          clear hst hj0 hR hp
          go_wp2_with fail
          go_roundw
          case rel => exact ⟨j + 1, by have := hp'.out; omega, by have := hp'.out; simp; omega, by rw [hz.out], by first | rfl | trivial⟩
          case measure => simp [intOf]; omega
        · have hz : Hid (runN l f (j + 1) = R + x4 + x5) := hst.out.trans (by rw [if_pos (by omega)])
          have hj0' : (f : Int) < p := by omega
          clear hst hj0 hR hp
          go_wp2_with fail
          go_roundw
          case rel => exact ⟨j + 1, by have := hp'.out; omega, by have := hp'.out; simp; omega, by rw [hz.out], by first | rfl | trivial⟩
          case measure => simp [intOf]; omega
    · have hge : ¬ ((f + j : Nat) : Int) < t := by omega
      have hv : Hid (runN l f j = runN l f (t - f)) := hrun.out j (by omega)
      clear hrun h2
      go_wp2_with fail
      go_ret
      exact ⟨by rw [← hv.out]; rfl, rfl⟩

set_option maxRecDepth 100000 in
set_option maxHeartbeats 4000000 in
theorem rnatural_any (v : Value) (l : List Ms) (hl : l.length ≤ 9223372036854775807) (f t : Int) (w : World) (hS : RecAt 6 msL w v l) :
    Calls Try.prog 24 #[v, .int .i64 f, .int .i64 t] w fun e w' => e = .returned (.tuple #[.int .i64 (natV l f t), .int .i64 (natE l f t)]) ∧ Below w.heap.size w w' := by
  have hS0 := hS
  obtain ⟨a, cap, rfl, h2⟩ := hS.ex
  clear hS
  by_cases hlong : 4096 < l.length
  · have e1 : natE l f t = 3 := if_pos hlong
    have e2 : natV l f t = 0 := by unfold natV; rw [e1]; rfl
    rw [e1, e2]
    clear e1 e2
    go_enter Try.func24, Try.ntmps24
    go_wp2_with fail
    go_ret2
    exact ⟨rfl, Below.refl _ _⟩
  · have hno : Hid (l.all mOk = false → natE l f t = 2 ∧ natV l f t = 0) := fun h => by
      have e : natE l f t = 2 := by unfold natE; rw [if_neg hlong, h]; rfl
      refine ⟨e, ?_⟩; unfold natV; rw [e]; rfl
    have hre : Hid (l.all mOk = true → ¬ (0 ≤ f ∧ f ≤ t ∧ t ≤ l.length) → natE l f t = 5 ∧ natV l f t = 0) := fun h h3 => by
      have e : natE l f t = 5 := by unfold natE; rw [if_neg hlong, h, if_pos rfl, if_neg h3]
      refine ⟨e, ?_⟩; unfold natV; rw [e]; rfl
    have hyes : Hid (l.all mOk = true → (0 ≤ f ∧ f ≤ t ∧ t ≤ l.length) → natE l f t = 0 ∧ natV l f t = runN l f.toNat (t.toNat - f.toNat)) := fun h h3 => by
      have e : natE l f t = 0 := by unfold natE; rw [if_neg hlong, h, if_pos rfl, if_pos h3]
      refine ⟨e, ?_⟩; unfold natV; rw [e]; rfl
    generalize natE l f t = E at *
    generalize natV l f t = V at *
    have hlong' : ¬ (4096 : Int) < l.length := by omega
    go_enter Try.func24, Try.ntmps24
    go_wp2_with fail
    go_loopw [8] (fun i wr => ∃ k : Nat, k ≤ l.length ∧ i = .int .i64 k ∧ wr = w ∧ Hid (∀ j (hj : j < l.length), j < k → mOk l[j] = true)) (fun i _ => l.length - (intOf i).toNat)
    case atStart => exact ⟨0, by omega, rfl, rfl, fun j _ hj => by omega⟩
    case round =>
      obtain ⟨k, hk, rfl, rfl, hall⟩ := hrel
      by_cases hlt : k < l.length
      · rcases h2 with h2 | ⟨b, o, rfl, hbl, hc⟩
        · rw [h2] at hlt; simp at hlt
        · have c4 : wr.cell? ⟨b, o + k * 6 + 4, none⟩ = some (.int .i64 l[k].w) := hc k hlt 4 _ rfl
          have c5 : wr.cell? ⟨b, o + k * 6 + 5, none⟩ = some (.int .i64 l[k].q) := hc k hlt 5 _ rfl
          have hlt' : (k : Int) < l.length := by omega
          have hok : Hid (mOk l[k] = decide ((0 ≤ l[k].w ∧ l[k].w ≤ 4095) ∧ (-64 ≤ l[k].q ∧ l[k].q ≤ 0))) := rfl
          have hyn : Hid (mOk l[k] = false → E = 2 ∧ V = 0) := fun hv => hno.out (all_no hlt hv)
          have hyy : Hid (mOk l[k] = true → ∀ j (hj : j < l.length), j < k + 1 → mOk l[j] = true) := fun hv j hj hjk => by
            by_cases h : j < k
            · exact hall.out j hj h
            · obtain rfl : j = k := by omega
              exact hv
          clear hc hno hre hyes hall hS0
          generalize l[k].w = x4 at *
          generalize l[k].q = x5 at *
          by_cases d0 : x4 < 0
          · obtain ⟨e1, e2⟩ := hyn.out (hok.out.trans (decide_eq_false (by omega)))
            subst e1 e2
            clear hyn hyy hok
            go_wp2_with fail
            go_ret2
            exact ⟨rfl, Below.refl _ _⟩
          · skip
            by_cases d1 : 4095 < x4
            · obtain ⟨e1, e2⟩ := hyn.out (hok.out.trans (decide_eq_false (by omega)))
              subst e1 e2
              clear hyn hyy hok
              go_wp2_with fail
              go_ret2
              exact ⟨rfl, Below.refl _ _⟩
            · skip
              by_cases d2 : x5 < -64
              · obtain ⟨e1, e2⟩ := hyn.out (hok.out.trans (decide_eq_false (by omega)))
                subst e1 e2
                clear hyn hyy hok
                go_wp2_with fail
                go_ret2
                exact ⟨rfl, Below.refl _ _⟩
              · skip
                by_cases d3 : 0 < x5
                · obtain ⟨e1, e2⟩ := hyn.out (hok.out.trans (decide_eq_false (by omega)))
                  subst e1 e2
                  clear hyn hyy hok
                  go_wp2_with fail
                  go_ret2
                  exact ⟨rfl, Below.refl _ _⟩
                · skip
                  have hy : Hid (∀ j (hj : j < l.length), j < k + 1 → mOk l[j] = true) := hyy.out (hok.out.trans (decide_eq_true (by omega)))
                  clear hyn hyy hok
                  go_wp2_with fail
                  go_roundw
                  case rel => exact ⟨k + 1, by omega, by simp, by first | rfl | trivial, hy⟩
                  case measure => simp [intOf]; omega
      · obtain rfl : k = l.length := by omega
        have hall' : l.all mOk = true := all_yes (fun j hj => hall.out j hj hj)
        have hge : ¬ ((l.length : Int) < l.length) := by omega
        by_cases h3 : 0 ≤ f ∧ f ≤ t ∧ t ≤ l.length
        · obtain ⟨e1, e2⟩ := hyes.out hall' h3
          obtain ⟨h30, h31, h32⟩ := h3
          obtain ⟨F, rfl⟩ : ∃ F : Nat, f = F := ⟨f.toNat, by omega⟩
          obtain ⟨T, rfl⟩ : ∃ T : Nat, t = T := ⟨t.toNat, by omega⟩
          have hr := rrun_any _ l hall' F T (by omega) (by omega) (by omega) wr hS0
          have e3 : V = runN l F (T - F) := e2
          rw [← e3] at hr
          subst e1
          clear e2 e3 hyes hre hno hall hall' h2 hS0
          have hF0 : ¬ (F : Int) < 0 := by omega
          have hTF : ¬ (T : Int) < F := by omega
          have hTl : ¬ (l.length : Int) < T := by omega
          go_wp2_with (go_at_call 50; refine hr.mono ?_; rintro e w' ⟨rfl, hww⟩; subst w')
          go_ret2
          exact ⟨rfl, Below.refl _ _⟩
        · obtain ⟨e1, e2⟩ := hre.out hall' h3
          subst e1 e2
          clear hyes hre hno hall hall' h2 hS0
          have h3' : f < 0 ∨ (0 ≤ f ∧ t < f) ∨ (0 ≤ f ∧ f ≤ t ∧ (l.length : Int) < t) := by omega
          clear h3
          rcases h3' with h3 | ⟨h3, h4⟩ | ⟨h3, h4, h5⟩
          all_goals
            go_wp2_with fail
            go_ret2
            exact ⟨rfl, Below.refl _ _⟩

end Go.Proofs.Ytidmmllbobimeaa
