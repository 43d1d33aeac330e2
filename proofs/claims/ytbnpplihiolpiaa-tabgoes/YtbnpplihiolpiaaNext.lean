/-
  What is proved here: what Next tells, and the document's Next.
-/
import Derived.Test.YtbnpplihiolpiaaBehind
import Derived.Test.YtbnpplihiolpiaaCheck
import Derived.Test.YtbnpplihiolpiaaRCheck
namespace Go.Proofs.Ytbnpplihiolpiaa
open Go.RowKit Go.Shelf

theorem ck_ok {l : List St} (h : okB l = true) : ckI l = 0 := if_pos h
theorem ck_no {l : List St} (h : ¬ okB l = true) : ckI l = 2 := if_neg h
theorem nx_no {l : List St} {x : Int} (h : ¬ okB l = true) : nxE l x = 2 ∧ nxS l x = ⟨0, 0⟩ := ⟨if_neg h, if_neg (fun e => h e.1)⟩
theorem nx_out {l : List St} {x : Int} (h : okB l = true) (hx : ¬ inB x = true) : nxE l x = 5 ∧ nxS l x = ⟨0, 0⟩ := ⟨(if_pos h).trans (if_neg hx), if_neg (fun e => hx e.2)⟩
theorem nx_ok {l : List St} {x : Int} (h : okB l = true) (hx : inB x = true) : nxE l x = 0 ∧ nxS l x = firstS l x := ⟨(if_pos h).trans (if_pos hx), if_pos ⟨h, hx⟩⟩

set_option maxRecDepth 100000 in
set_option maxHeartbeats 2000000 in
theorem next_any (v : Value) (l : List St) (x : Int) (hl : l.length ≤ 9223372036854775807) (w : World) (hS : RecAt 2 stL w v l) :
    Calls Try.prog 6 #[v, .int .i64 x] w fun e w' => e = .returned (.tuple #[stV (nxS l x), .int .i64 (nxE l x)]) ∧ Below w.heap.size w w' := by
  have hB := (Below.refl w.heap.size w).alloc (Nat.le_refl _) (.cells (stC ⟨0, 0⟩) 24)
  have hS1 := hS.below hB (Nat.le_refl _)
  have hb0 := SB.new w ⟨0, 0⟩
  have hck := check_any v l hl _ hS1
  have hre := reaches_any x
  have hsz : (w.alloc (.cells (stC ⟨0, 0⟩) 24)).heap.size = w.heap.size + 1 := World.size_alloc _ _
  by_cases hok : okB l = true
  · rw [ck_ok hok] at hck
    by_cases hx : inB x = true
    · rw [hx] at hre
      rw [(nx_ok hok hx).1, (nx_ok hok hx).2]
      have hbe := fun W h => behind_any v l x hok hx W h
      obtain ⟨a, cap, rfl, _⟩ := hS.ex
      clear hS hok hx
      generalize firstS l x = z at *
      go_enter Try.func6, Try.ntmps6
      go_wp2_with fail
      refine hck.mono ?_
      rintro e w1 ⟨rfl, b1⟩
      have hS2 := hS1.below b1 (Nat.le_refl _)
      have hb1 := hb0.below b1 hb0.lt
      have hB1 := hB.trans (b1.mono hB.size)
      have hz1 := b1.size
      clear hck hb0 b1 hB
      go_wp2_with fail
      refine (hre _).mono ?_
      rintro e w' ⟨rfl, hw⟩
      subst w'
      go_wp2_with fail
      refine (hbe _ hS2).mono ?_
      rintro e w2 ⟨rfl, b2⟩
      have hb2 := hb1.below b2 hb1.lt
      have hB2 := hB1.trans (b2.mono hB1.size)
      clear hbe hre hb1 b2 hB1
      unfold stV
      go_wp2_with (refine wpList_store_row rfl 24 _ _ rfl w.heap.size (stC z) rfl rfl 24 _ hb2.row (info24 _) rfl (stC_one _) ?_)
      refine bodyPost_ret (results_cell_row2 rfl _ _ w.heap.size 24 _ (0, 0) _ rfl (hb2.set _).row Try.underlying24 rfl (info24 _)) rfl ⟨rfl, below_row hB2 hB2.size (Nat.le_refl _) _⟩
    · rw [Bool.not_eq_true] at hx
      rw [hx] at hre
      rw [(nx_out hok (by simpa using hx)).1, (nx_out hok (by simpa using hx)).2]
      obtain ⟨a, cap, rfl, _⟩ := hS.ex
      clear hS hok hx
      go_enter Try.func6, Try.ntmps6
      go_wp2_with fail
      refine hck.mono ?_
      rintro e w1 ⟨rfl, b1⟩
      have hb1 := hb0.below b1 hb0.lt
      have hB1 := hB.trans (b1.mono hB.size)
      have hz1 := b1.size
      clear hck hb0 b1 hB hS1
      go_wp2_with fail
      refine (hre _).mono ?_
      rintro e w' ⟨rfl, hw⟩
      subst w'
      go_wp2_with (refine wpList_store_row rfl 24 _ _ rfl w.heap.size (stC ⟨0, 0⟩) rfl rfl 24 _ hb1.row (info24 _) rfl (stC_one _) ?_)
      refine bodyPost_ret (results_cell_row2 rfl _ _ w.heap.size 24 _ (0, 0) _ rfl (hb1.set _).row Try.underlying24 rfl (info24 ⟨0, 0⟩)) rfl ⟨rfl, below_row hB1 hB1.size (Nat.le_refl _) _⟩
  · rw [ck_no hok] at hck
    rw [(nx_no hok).1, (nx_no hok).2]
    obtain ⟨a, cap, rfl, _⟩ := hS.ex
    clear hS hok hre
    go_enter Try.func6, Try.ntmps6
    go_wp2_with fail
    refine hck.mono ?_
    rintro e w1 ⟨rfl, b1⟩
    have hb1 := hb0.below b1 hb0.lt
    have hB1 := hB.trans (b1.mono hB.size)
    have hz1 := b1.size
    clear hck hb0 b1 hB hS1
    go_wp2_with (refine wpList_store_row rfl 24 _ _ rfl w.heap.size (stC ⟨0, 0⟩) rfl rfl 24 _ hb1.row (info24 _) rfl (stC_one _) ?_)
    refine bodyPost_ret (results_cell_row2 rfl _ _ w.heap.size 24 _ (0, 0) _ rfl (hb1.set _).row Try.underlying24 rfl (info24 ⟨0, 0⟩)) rfl ⟨rfl, below_row hB1 hB1.size (Nat.le_refl _) _⟩

set_option maxRecDepth 100000 in
set_option maxHeartbeats 2000000 in
theorem rnext_any (v : Value) (l : List St) (x : Int) (hl : l.length ≤ 9223372036854775807) (w : World) (hS : RecAt 2 stL w v l) :
    Calls Try.prog 7 #[v, .int .i64 x] w fun e w' => e = .returned (.tuple #[stV (nxS l x), .int .i64 (nxE l x)]) ∧ Below w.heap.size w w' := by
  have hB := (Below.refl w.heap.size w).alloc (Nat.le_refl _) (.cells (stC ⟨0, 0⟩) 24)
  have hS1 := hS.below hB (Nat.le_refl _)
  have hb0 := SB.new w ⟨0, 0⟩
  have hck := rcheck_any v l hl _ hS1
  have hsz : (w.alloc (.cells (stC ⟨0, 0⟩) 24)).heap.size = w.heap.size + 1 := World.size_alloc _ _
  by_cases hok : okB l = true
  · rw [ck_ok hok] at hck
    by_cases hx : inB x = true
    · rw [(nx_ok hok hx).1, (nx_ok hok hx).2]
      have hbe := fun W h => after_any v l x (ok_get hok).1 hx W h
      have hx' : 0 ≤ x ∧ x ≤ 8190 := of_decide_eq_true hx
      obtain ⟨x0, x1⟩ := hx'
      have x0' : ¬ x < 0 := by omega
      have x1' : ¬ 8190 < x := by omega
      obtain ⟨a, cap, rfl, _⟩ := hS.ex
      clear hS hok hx
      generalize firstS l x = z at *
      go_enter Try.func7, Try.ntmps7
      go_wp2_with fail
      refine hck.mono ?_
      rintro e w1 ⟨rfl, b1⟩
      have hS2 := hS1.below b1 (Nat.le_refl _)
      have hb1 := hb0.below b1 hb0.lt
      have hB1 := hB.trans (b1.mono hB.size)
      have hz1 := b1.size
      clear hck hb0 b1 hB
      go_wp2_with fail
      refine (hbe _ hS2).mono ?_
      rintro e w2 ⟨rfl, b2⟩
      have hb2 := hb1.below b2 hb1.lt
      have hB2 := hB1.trans (b2.mono hB1.size)
      clear hbe hb1 b2 hB1
      unfold stV
      go_wp2_with (refine wpList_store_row rfl 24 _ _ rfl w.heap.size (stC z) rfl rfl 24 _ hb2.row (info24 _) rfl (stC_one _) ?_)
      refine bodyPost_ret (results_cell_row2 rfl _ _ w.heap.size 24 _ (0, 0) _ rfl (hb2.set _).row Try.underlying24 rfl (info24 _)) rfl ⟨rfl, below_row hB2 hB2.size (Nat.le_refl _) _⟩
    · rw [(nx_out hok hx).1, (nx_out hok hx).2]
      have hx' : ¬ (0 ≤ x ∧ x ≤ 8190) := fun e => hx (decide_eq_true e)
      obtain ⟨a, cap, rfl, _⟩ := hS.ex
      clear hS hok hx hS1
      by_cases x0 : x < 0
      · clear hx'
        go_enter Try.func7, Try.ntmps7
        go_wp2_with fail
        refine hck.mono ?_
        rintro e w1 ⟨rfl, b1⟩
        have hb1 := hb0.below b1 hb0.lt
        have hB1 := hB.trans (b1.mono hB.size)
        have hz1 := b1.size
        clear hck hb0 b1 hB
        go_wp2_with (refine wpList_store_row rfl 24 _ _ rfl w.heap.size (stC ⟨0, 0⟩) rfl rfl 24 _ hb1.row (info24 _) rfl (stC_one _) ?_)
        refine bodyPost_ret (results_cell_row2 rfl _ _ w.heap.size 24 _ (0, 0) _ rfl (hb1.set _).row Try.underlying24 rfl (info24 ⟨0, 0⟩)) rfl ⟨rfl, below_row hB1 hB1.size (Nat.le_refl _) _⟩
      · have x1 : 8190 < x := by omega
        clear hx'
        go_enter Try.func7, Try.ntmps7
        go_wp2_with fail
        refine hck.mono ?_
        rintro e w1 ⟨rfl, b1⟩
        have hb1 := hb0.below b1 hb0.lt
        have hB1 := hB.trans (b1.mono hB.size)
        have hz1 := b1.size
        clear hck hb0 b1 hB
        go_wp2_with (refine wpList_store_row rfl 24 _ _ rfl w.heap.size (stC ⟨0, 0⟩) rfl rfl 24 _ hb1.row (info24 _) rfl (stC_one _) ?_)
        refine bodyPost_ret (results_cell_row2 rfl _ _ w.heap.size 24 _ (0, 0) _ rfl (hb1.set _).row Try.underlying24 rfl (info24 ⟨0, 0⟩)) rfl ⟨rfl, below_row hB1 hB1.size (Nat.le_refl _) _⟩
  · rw [ck_no hok] at hck
    rw [(nx_no hok).1, (nx_no hok).2]
    obtain ⟨a, cap, rfl, _⟩ := hS.ex
    clear hS hok
    go_enter Try.func7, Try.ntmps7
    go_wp2_with fail
    refine hck.mono ?_
    rintro e w1 ⟨rfl, b1⟩
    have hb1 := hb0.below b1 hb0.lt
    have hB1 := hB.trans (b1.mono hB.size)
    have hz1 := b1.size
    clear hck hb0 b1 hB hS1
    go_wp2_with (refine wpList_store_row rfl 24 _ _ rfl w.heap.size (stC ⟨0, 0⟩) rfl rfl 24 _ hb1.row (info24 _) rfl (stC_one _) ?_)
    refine bodyPost_ret (results_cell_row2 rfl _ _ w.heap.size 24 _ (0, 0) _ rfl (hb1.set _).row Try.underlying24 rfl (info24 ⟨0, 0⟩)) rfl ⟨rfl, below_row hB1 hB1.size (Nat.le_refl _) _⟩
end Go.Proofs.Ytbnpplihiolpiaa
